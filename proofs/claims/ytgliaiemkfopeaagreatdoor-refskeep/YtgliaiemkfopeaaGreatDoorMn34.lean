import Derived.Test.YtgliaiemkfopeaaGreatDoorMn33
set_option linter.unusedSimpArgs false
set_option linter.unusedVariables false
set_option maxRecDepth 20000
set_option maxHeartbeats 4000000
namespace Go.Proofs.YtgliaiemkfopeaaGreatDoor.K
open Go.RowKit
theorem Tryz.results9:Tryz.f9.results=#[.tmp 4,.tmp 5,.tmp 6]:=by kernel_rfl
structure St9 (r X:Nat) (TA cX:Array Value) (W:World):Prop where
 b:W.heap[r]? = some (.cells TA 41 (0,0))
 x:W.heap[X]? = some (.cells cX 34 (0,0))
theorem St9.cx {r X D R Q:Nat} {TA:Array Value} {W:World} (h:St9 r X TA #[.pointer (some ⟨D,0,none⟩),.pointer (some ⟨R,0,none⟩),.pointer (some ⟨Q,0,none⟩)] W):W.cell? ⟨X,1,none⟩=some (.pointer (some ⟨R,0,none⟩))/\W.cell? ⟨X,2,none⟩=some (.pointer (some ⟨Q,0,none⟩)):=⟨by simp[World.cell?,h.x],by simp[World.cell?,h.x]⟩
theorem St9.cs {r X:Nat} {s:Ls} {TA cX:Array Value} (hT:(uX s).toArray=TA) {W:World} (h:St9 r X TA cX W):W.cell? ⟨r,0,none⟩=some (.int .i64 s.k)/\W.cell? ⟨r,7,none⟩=some (sV s.tx)/\W.cell? ⟨r,8,none⟩=some (sV s.nm)/\W.cell? ⟨r,9,none⟩=some (sV s.tg)/\W.cell? ⟨r,10,none⟩=some (.int .i64 s.n)/\W.rangeAt r 3 (Y9 s.who):=by
 have hb:=h.b
 rw[<-hT] at hb
 refine⟨?_,?_,?_,?_,?_,?_⟩
 ·rw[cell_of_row _ _ 0 _ _ _ hb];rfl
 ·rw[cell_of_row _ _ 7 _ _ _ hb];rfl
 ·rw[cell_of_row _ _ 8 _ _ _ hb];rfl
 ·rw[cell_of_row _ _ 9 _ _ _ hb];rfl
 ·rw[cell_of_row _ _ 10 _ _ _ hb];rfl
 ·have:=xZ (pre:=[.int .i64 s.k,.slice s.a s.ms.length s.c,.bool s.rot]) (mid:=Y9 s.who) (post:=[sV s.tx,sV s.nm,sV s.tg,.int .i64 s.n,.int .i64 s.af,.int .i64 s.ti,.int .u64 s.di,.int .u64 s.ta]) (o:=0) (by have:=zy hb;exact this)
  rw[Nat.zero_add] at this
  exact this
structure Mid (w0 w:World) (X:Nat) (S XE:Nat->Prop) (N D R:Nat) (oz:Option (List Int)) (go:Bool) (t n:Nat) (T:Ts) (r:Nat) (TA cX:Array Value) (C:Nat) (rs:List Rx) (ls:List Ex) (W:World):Prop where
 bel:Below w.heap.size w W
 pz:Pz (fun i=>S i/\nD w i) (fun i=>XE i ∨ i=C) N D R W oz go t n T
 dq:∃ u1 u2,Dq 0 W C u1 u2 rs ls
 st:St9 r X TA cX W
 b0:Below w0.heap.size w0 w
 gb:Gb w0
 lo:(∀ i,S i->w0.heap.size<=i)/\w0.heap.size<=R
 lim:(∀ i,S i->i<w.heap.size)/\R<w.heap.size
 ge:w.heap.size<=C/\w.heap.size<=r
 lt:C<W.heap.size
theorem Mid.below {w0 w:World} {X:Nat} {S XE:Nat->Prop} {N D R:Nat} {oz:Option (List Int)} {go:Bool} {t n:Nat} {T:Ts} {r:Nat} {TA cX:Array Value} {C:Nat} {rs:List Rx} {ls:List Ex} {W W':World} (h:Mid w0 w X S XE N D R oz go t n T r TA cX C rs ls W) (hb:Below W.heap.size W W'):Mid w0 w X S XE N D R oz go t n T r TA cX C rs ls W':=by
 obtain⟨u1,u2,hd⟩:=h.dq
 refine⟨h.bel.trans (hb.mono h.bel.size),⟨h.pz.fd.below hb,⟨(hb.block R (z7 h.pz.rf.box)).trans h.pz.rf.box⟩,h.pz.nS,fun i hi=>Nat.lt_of_lt_of_le (h.pz.lim i hi) hb.size,h.pz.tt.below hb⟩,⟨u1,u2,hd.below hb⟩,⟨(hb.block r (z7 h.st.b)).trans h.st.b,(hb.block X (z7 h.st.x)).trans h.st.x⟩,h.b0,h.gb,h.lo,h.lim,h.ge,Nat.lt_of_lt_of_le h.lt hb.size⟩
theorem Mid.g {w0 w:World} {X:Nat} {S XE:Nat->Prop} {N D R:Nat} {oz:Option (List Int)} {go:Bool} {t n:Nat} {T:Ts} {r:Nat} {TA cX:Array Value} {C:Nat} {rs:List Rx} {ls:List Ex} {W:World} (h:Mid w0 w X S XE N D R oz go t n T r TA cX C rs ls W):Below w0.heap.size w0 W/\Gb W:=by
 have:Below w0.heap.size w0 W:=h.b0.trans (h.bel.mono h.b0.size)
 exact⟨this,h.gb.below this⟩
theorem Mid.after {w0 w:World} {X:Nat} {S XE:Nat->Prop} {N D R:Nat} {oz:Option (List Int)} {go:Bool} {t n:Nat} {T:Ts} {r:Nat} {TA cX:Array Value} {C:Nat} {rs:List Rx} {ls:List Ex} {W W':World} (h:Mid w0 w X S XE N D R oz go t n T r TA cX C rs ls W) (ha:Al (Sr (fun i=>S i/\nD w i) R) W W'):St9 r X TA cX W'/\(∃ u1 u2,Dq 0 W' C u1 u2 rs ls)/\Gb W'/\C<W'.heap.size:=by
 obtain⟨u1,u2,hd⟩:=h.dq
 have hnd:∀ i,Sr (fun i=>S i/\nD w i) R i->nD W i:=fun i hi=>by
  rcases hi with hi | hi
  ·intro c T f hc
   rw[h.bel.block i (h.lim.1 i hi.1)] at hc
   exact hi.2 c T f hc
  ·rw[hi];exact nD_rf h.pz.rf
 refine⟨⟨(ha.blk r (z7 h.st.b) (fun hi=>?_)).trans h.st.b,(ha.blk X (z7 h.st.x) (fun hi=>(hnd X hi _ _ _ h.st.x).2.2.2 rfl)).trans h.st.x⟩,⟨u1,u2,hd.alD ha hnd⟩,h.gb.below (h.g.1.trans (uQ ha (fun i hi=>?_) h.g.1.size)),Nat.lt_of_lt_of_le h.lt ha.size⟩
 ·have:=h.ge.2
  rcases hi with hi | hi
  ·have:=h.lim.1 r hi.1;omega
  ·have:=h.lim.2;omega
 ·rcases hi with hi | hi
  ·exact h.lo.1 i hi.1
  ·rw[hi];exact h.lo.2
theorem QK {w0 w W1:World} {X:Nat} {S XE:Nat->Prop} {N D R:Nat} {oz:Option (List Int)} {go:Bool} {t n:Nat} {T:Ts} {TA cX:Array Value} {Q:Nat} {rs:List Rx} {ls:List Ex} (hz:Pz S XE N D R w oz go t n T) (hd:∃ v1 v2,Dq 0 w Q v1 v2 rs ls) (hb0:Below w0.heap.size w0 w) (hgb:Gb w0) (hlo:(∀ i,S i->w0.heap.size<=i)/\w0.heap.size<=R) (hx:w.heap[X]? = some (.cells cX 34 (0,0))) (hW:w.alloc (.cells TA 41)=W1) :
  Calls Tryz.prog 18 #[.pointer (some ⟨Q,0,none⟩)] W1 fun e w2=>∃ C,e=.returned (.pointer (some ⟨C,0,none⟩))/\Mid w0 w X S XE N D R oz go t n T w.heap.size TA cX C rs ls w2:=by
 obtain⟨v1,v2,hd⟩:=hd
 have hb1:Below w.heap.size w W1:=by rw[<-hW];exact(Below.refl _ w).alloc (Nat.le_refl _) _
 have hs1:W1.heap.size=w.heap.size+1:=by rw[<-hW];simp
 have hr0:W1.heap[w.heap.size]? = some (.cells TA 41):=by rw[<-hW];exact heap_alloc_new _ _
 refine(copyD_any W1 (hd.below hb1)).mono ?_
 rintro e w2 ⟨C,u1,u2,rfl,hC,hD,hb2⟩
 have hbb:Below w.heap.size w w2:=hb1.trans (hb2.mono hb1.size)
 have hCl:=z7 hD.box
 exact⟨C,rfl,hbb,hz.typed.more (by omega) hbb hCl,⟨u1,u2,hD.low⟩,⟨(hb2.block _ (by omega)).trans hr0,(hbb.block X (z7 hx)).trans hx⟩,hb0,hgb,hlo,⟨fun i hi=>hz.lim i (.inl (.inl hi)),z7 hz.rf.box⟩,⟨by omega,Nat.le_refl _⟩,hCl⟩
theorem tell_er (k:Int) (w:World) (h:C00 w):Calls Tryz.prog 13 #[erV k] w fun e w'=>e=.returned (.int .i64 k)/\Below w.heap.size w w':=by
 unfold erV
 by_cases hk:k=0
 ·rw[if_pos hk,hk];exact YY w
 ·rw[if_neg hk];exact tell_errno k w h
theorem fl_f {k:Nat} {m:Rk.Tb Str Kp Le} {o:Option (List (List Sp))} (h:FlO k m o) (hk:k<=100):∀ f0,Option.map fB o=some f0->f0.length<=200000000:=fun f0 hf=>by
 cases o with
 | none=>cases hf
 | some bs =>
  cases hf
  have:=Fl.len (show Fl k m bs from h) hk
  omega
theorem lo_of {k:Nat} {m:Rk.Tb Str Kp Le} {rs:List Rx} {ls:List Ex} (h:Iv k m rs ls):∀ z,(m z).isSome=true->∀ b ∈ z,b<128:=fun z hz=>by
 obtain⟨y,hy⟩:=Option.isSome_iff_exists.1 hz
 exact(h.can.at_ z y.1 y.2 hy).1
theorem post23_ret {S XE:Nat->Prop} {N D R:Nat} {f:Option Str} {n:Nat} {T:Ts} {x y:Str} {w:World} {e:Ending} {w':World} (h:jx S XE N D R f n T x y w e w'):(∃ v,e=.returned v)/\Al (Sr S R) w w':=by
 rcases h with ⟨_,h,hb⟩ | ⟨_,⟨_,h,hb⟩ | ⟨_,⟨_,h,hb⟩ | ⟨_,_,_,_,_,h,_,_,_,hg⟩⟩⟩
 ·exact⟨⟨_,h⟩,Al.below hb⟩
 ·exact⟨⟨_,h⟩,Al.below hb⟩
 ·exact⟨⟨_,h⟩,Al.below hb⟩
 ·exact⟨⟨_,h⟩,hg.al⟩
theorem post20_al {S XE:Nat->Prop} {N D R:Nat} {f:Option Str} {n:Nat} {T:Ts} {ms:List Mv1} {p:Per} {tx:Str} {w:World} {e:Ending} {w':World} (h:jK S XE N D R f n T ms p tx w e w'):Al (Sr S R) w w':=by
 rcases h with ⟨_,_,_,⟨_,_,hb⟩ | ⟨_,_,_,hb⟩⟩ | ⟨_,_,⟨_,_,hb⟩ | ⟨_,⟨_,_,_,_,_,hb⟩ | ⟨_,⟨_,_,hb⟩ | ⟨_,⟨_,_,hb⟩ | ⟨_,_,_,_,_,_,_,_,_,hg⟩⟩⟩⟩⟩
 ·exact Al.below hb
 ·exact Al.below hb
 ·exact Al.below hb
 ·exact Al.below hb
 ·exact Al.below hb
 ·exact Al.below hb
 ·exact hg.al
structure Q9 (r X R:Nat) (NM TG TX:ByteArray) (kn:Int) (PL:List Value) (W:World):Prop where
 c0:W.cell? ⟨X,1,none⟩=some (.pointer (some ⟨R,0,none⟩))
 c1:W.cell? ⟨r,8,none⟩=some (.string NM)
 c2:W.cell? ⟨r,9,none⟩=some (.string TG)
 c3:W.cell? ⟨r,10,none⟩=some (.int .i64 kn)
 c4:W.cell? ⟨r,7,none⟩=some (.string TX)
 rp:W.rangeAt r 3 PL
theorem do0_any {w0:World} {X k:Nat} {S XE:Nat->Prop} {N D R t n:Nat} {T:Ts} {o:Option (List (List Sp))} {Q:Nat} {rs:List Rx} {ls:List Ex} (s:Ls) (w:World) (hk:k<100) (hb0:Below w0.heap.size w0 w) (hgb:Gb w0) (hg:Gs w0.heap.size k S XE N D R t n T o Q rs ls w) (hx:Wx w X D R Q) (hXE:XE X) (h1:s.k ≠ 1) (h2:s.k ≠ 2) (h3:s.k ≠ 3) (h4:s.k ≠ 4) :
  Calls Tryz.prog 9 #[.pointer (some ⟨X,0,none⟩),.agg (uX s).toArray] w (uY w0 X k D R w):=by
 have hz:=hg.pw.z
 obtain⟨kd,hs⟩:∃ z,s.k=z:=⟨_,rfl⟩
 rw[hs] at h1 h2 h3 h4
 obtain⟨r,HR⟩:=nm_ w.heap.size
 obtain⟨TA,HTA⟩:=nm_ ((uX s).toArray)
 obtain⟨W1,HW1⟩:=nm_ (w.alloc (.cells TA 41))
 obtain⟨cX,HCX⟩:=nm_ (#[.pointer (some ⟨D,0,none⟩),.pointer (some ⟨R,0,none⟩),.pointer (some ⟨Q,0,none⟩)] : Array Value)
 have hx1:w.heap[X]? = some (.cells cX 34 (0,0)):=by rw[<-HCX.out];exact hx
 have hc1:=QK (TA:=TA) hz hg.dq hb0 hgb ⟨hg.lo.1,hg.lo.2.1⟩ hx1 HW1.out
 rw[HR.out] at hc1
 have hcw:W1.cell? ⟨X,2,none⟩=some (.pointer (some ⟨Q,0,none⟩)):=by
  have:W1.heap[X]? = some (.cells cX 34 (0,0)):=by rw[<-HW1.out,heap_alloc_old _ _ (z7 hx1)];exact hx1
  rw[<-HCX.out] at this
  simp[World.cell?,this]
 rw[<-HW1.out] at hcw
 obtain⟨NM,HNM⟩:=nm_ (⟨s.nm.toArray⟩:ByteArray)
 obtain⟨TG,HTG⟩:=nm_ (⟨s.tg.toArray⟩:ByteArray)
 obtain⟨TX,HTX⟩:=nm_ (⟨s.tx.toArray⟩:ByteArray)
 obtain⟨kn,HKN⟩:=nm_ s.n
 obtain⟨PL,HPL⟩:=nm_ (Y9 s.who)
 have hP4:PL.length=4:=by rw[<-HPL.out];rfl
 have HI38:Hid ((Tryz.prog.info? 38).map (·.size)=some PL.length):=hid (by rw[hP4];kernel_rfl)
 have HI74:Hid ((Tryz.prog.info? 74).map (·.size)=some PL.toArray.size):=hid (by rw[List.size_toArray,hP4];kernel_rfl)
 have HPS:Hid ((4:Nat)=PL.toArray.size):=hid (by rw[List.size_toArray,hP4])
 have HPO:Hid (PL.toArray.all (·.oneCell')=true):=hid (by rw[<-HPL.out];exact all_oneCell_toArray (fun v hv=>by simp[Y9] at hv;rcases hv with rfl | rfl | rfl | rfl <;> rfl))
 have hT15:TA.size=15:=by rw[<-HTA.out];rfl
 have HI41:Hid ((Tryz.prog.info? 41).map (·.size)=some TA.size):=hid (by rw[hT15];kernel_rfl)
 have HQ9:Hid (∀ W,St9 r X TA cX W->Q9 r X R NM TG TX kn PL W/\W.cell? ⟨r,0,none⟩=some (.int .i64 kd)):=fun W h=>by
  obtain⟨g0,g7,g8,g9,g10,gp⟩:=h.cs HTA.out
  have h':=h
  rw[<-HCX.out] at h'
  refine⟨⟨h'.cx.1,by rw[<-HNM.out];exact g8,by rw[<-HTG.out];exact g9,by rw[<-HKN.out];exact g10,by rw[<-HTX.out];exact g7,by rw[<-HPL.out];exact gp⟩,?_⟩
  rw[hs] at g0
  exact g0
 rw[HTA.out]
 have HC:Hid (Calls Tryz.prog 18 #[.pointer (some ⟨Q,0,none⟩)] W1 fun e w2=>∃ C,e=.returned (.pointer (some ⟨C,0,none⟩))/\St9 r X TA cX w2/\uY w0 X k D R w (.returned (.tuple #[.int .i64 0,.pointer (some ⟨C,0,none⟩),.int .i64 0])) w2):=hid (by
  refine hc1.mono ?_
  rintro e w2 ⟨C,rfl,hm⟩
  obtain⟨u1,u2,hD⟩:=hm.dq
  refine⟨C,rfl,hm.st,fin_do (e4:=.returned (erV 0)) (w4:=w2) hb0 hz.typed ⟨hg.lo.1,hg.lo.2.1⟩ (by have:=hg.n2;omega) hx1 hXE hm.ge.1 hm.bel hm.lt ⟨rfl,_,N,t,n,T,o,hm.pz.w,hg.iv.up,hg.fl.up,Nat.le_refl _,by have:=hg.n1;omega,by omega,gr_below (Below.refl _ _)⟩ (Below.refl _ _) hD.box (Al.refl _ _) ⟨u1,u2,hD⟩ (Below.refl _ _)⟩)
 have g1:(kd == 1)=false:=by simpa using h1
 have g2:(kd == 2)=false:=by simpa using h2
 have g3:(kd == 3)=false:=by simpa using h3
 have g4:(kd == 4)=false:=by simpa using h4
 clear hc1 hz hg hx hx1 h1 h2 h3 h4 hs
 go_enter Tryz.func9,Tryz.ntmps9
 go_wp2_with (first
  | (go_at_call 18;rw[HW1.out];refine HC.out.mono ?_;rintro e w2 ⟨C,rfl,st2,p8⟩;have hq0:=(HQ9.out w2 st2).2;have P8:=hid p8;rw[HR.out];clear p8 HC st2))
 exact bodyPost_ret (results_tmp3 Tryz.results9 _ _ _) rfl P8.out
theorem do2_any {w0:World} {X k:Nat} {S XE:Nat->Prop} {N D R t n:Nat} {T:Ts} {o:Option (List (List Sp))} {Q:Nat} {rs:List Rx} {ls:List Ex} (s:Ls) (w:World) (hk:k<100) (hb0:Below w0.heap.size w0 w) (hgb:Gb w0) (hg:Gs w0.heap.size k S XE N D R t n T o Q rs ls w) (hx:Wx w X D R Q) (hXE:XE X) (hs:s.k=2) :
  Calls Tryz.prog 9 #[.pointer (some ⟨X,0,none⟩),.agg (uX s).toArray] w (uY w0 X k D R w):=by
 have hz:=hg.pw.z
 obtain⟨r,HR⟩:=nm_ w.heap.size
 obtain⟨TA,HTA⟩:=nm_ ((uX s).toArray)
 obtain⟨W1,HW1⟩:=nm_ (w.alloc (.cells TA 41))
 obtain⟨cX,HCX⟩:=nm_ (#[.pointer (some ⟨D,0,none⟩),.pointer (some ⟨R,0,none⟩),.pointer (some ⟨Q,0,none⟩)] : Array Value)
 have hx1:w.heap[X]? = some (.cells cX 34 (0,0)):=by rw[<-HCX.out];exact hx
 have hc1:=QK (TA:=TA) hz hg.dq hb0 hgb ⟨hg.lo.1,hg.lo.2.1⟩ hx1 HW1.out
 rw[HR.out] at hc1
 have hcw:W1.cell? ⟨X,2,none⟩=some (.pointer (some ⟨Q,0,none⟩)):=by
  have:W1.heap[X]? = some (.cells cX 34 (0,0)):=by rw[<-HW1.out,heap_alloc_old _ _ (z7 hx1)];exact hx1
  rw[<-HCX.out] at this
  simp[World.cell?,this]
 rw[<-HW1.out] at hcw
 obtain⟨NM,HNM⟩:=nm_ (⟨s.nm.toArray⟩:ByteArray)
 obtain⟨TG,HTG⟩:=nm_ (⟨s.tg.toArray⟩:ByteArray)
 obtain⟨TX,HTX⟩:=nm_ (⟨s.tx.toArray⟩:ByteArray)
 obtain⟨kn,HKN⟩:=nm_ s.n
 obtain⟨PL,HPL⟩:=nm_ (Y9 s.who)
 have hP4:PL.length=4:=by rw[<-HPL.out];rfl
 have HI38:Hid ((Tryz.prog.info? 38).map (·.size)=some PL.length):=hid (by rw[hP4];kernel_rfl)
 have HI74:Hid ((Tryz.prog.info? 74).map (·.size)=some PL.toArray.size):=hid (by rw[List.size_toArray,hP4];kernel_rfl)
 have HPS:Hid ((4:Nat)=PL.toArray.size):=hid (by rw[List.size_toArray,hP4])
 have HPO:Hid (PL.toArray.all (·.oneCell')=true):=hid (by rw[<-HPL.out];exact all_oneCell_toArray (fun v hv=>by simp[Y9] at hv;rcases hv with rfl | rfl | rfl | rfl <;> rfl))
 have hT15:TA.size=15:=by rw[<-HTA.out];rfl
 have HI41:Hid ((Tryz.prog.info? 41).map (·.size)=some TA.size):=hid (by rw[hT15];kernel_rfl)
 have HQ9:Hid (∀ W,St9 r X TA cX W->Q9 r X R NM TG TX kn PL W/\W.cell? ⟨r,0,none⟩=some (.int .i64 2)):=fun W h=>by
  obtain⟨g0,g7,g8,g9,g10,gp⟩:=h.cs HTA.out
  have h':=h
  rw[<-HCX.out] at h'
  refine⟨⟨h'.cx.1,by rw[<-HNM.out];exact g8,by rw[<-HTG.out];exact g9,by rw[<-HKN.out];exact g10,by rw[<-HTX.out];exact g7,by rw[<-HPL.out];exact gp⟩,?_⟩
  rw[hs] at g0
  exact g0
 rw[HTA.out]
 have HC:Hid (Calls Tryz.prog 18 #[.pointer (some ⟨Q,0,none⟩)] W1 fun e w2=>∃ C,e=.returned (.pointer (some ⟨C,0,none⟩))/\St9 r X TA cX w2/\St9 r X TA cX w2.drew/\Calls Tryz.prog 23 #[.pointer (some ⟨R,0,none⟩),.string NM,.string TG] w2.drew fun e w4=>∃ ev,e=.returned ev/\St9 r X TA cX w4/\Calls Tryz.prog 24 #[.pointer (some ⟨C,0,none⟩),.string NM,.string TG] w4 fun e w7=>∃ kk,e=.returned (.int .i64 kk)/\Calls Tryz.prog 13 #[ev] w7 fun e w8=>e=.returned (.int .i64 kk)/\uY w0 X k D R w (.returned (.tuple #[.int .i64 kk,.pointer (some ⟨C,0,none⟩),.int .i64 kk])) w8):=hid (by
  refine hc1.mono ?_
  rintro e w2 ⟨C,rfl,hm⟩
  have hm':=hm.below (zv _ w2 1)
  have hpw:=hm'.pz.w
  refine⟨C,rfl,hm.st,hm'.st,?_⟩
  have h23:=link_all _ _ N D R w2.drew _ t n T s.nm s.tg hpw (by have:=hg.n2;omega) (by have:=hg.n1;omega) (fl_f hg.fl (by omega)) (fun h1 h2 h3 T' hT'=>(lk_Ib hg.iv.toIb h1 h2 h3).fewT (by omega) hT') (lo_of hg.iv) hm'.g.2.tab hm'.g.2.db hm'.g.2.mx
  unfold sV at h23
  rw[HNM.out,HTG.out] at h23
  refine h23.mono ?_
  rintro e4 w4 hp
  obtain⟨⟨ev,rfl⟩,hal⟩:=post23_ret hp
  obtain⟨st4,⟨u1,u2,hD4⟩,gb4,lt4⟩:=hm'.after hal
  refine⟨ev,rfl,st4,?_⟩
  have h24:=linkD_any s.nm s.tg w4 hD4 (Nat.zero_le _) (by have:=hg.iv.n1;omega)
  unfold sV at h24
  rw[HNM.out,HTG.out] at h24
  refine h24.mono ?_
  rintro e7 w7 ⟨k2,rs2,hd2,rfl,⟨v,hD7⟩,hal7⟩
  have ha:=lk_both hpw hg.iv hg.fl hg.n1 hk hp hd2
  have hev:ev=erV k2:=by have:=ha.1;injection this
  have c7:C00 w7:=by
   have:=gb4.c0
   unfold C00 at this ⊢
   rw[World.cell?_of_block (a:=⟨0,0,none⟩) (hal7.blk 0 (Nm.cell_lt this) (by have:=hm.ge.1;have:=hb0.size;have h0:=Nm.cell_lt hgb.c0;simp only at h0;omega))]
   exact this
  refine⟨k2,rfl,?_⟩
  rw[hev]
  refine(tell_er k2 w7 c7).mono ?_
  rintro e8 w8 ⟨rfl,hb8⟩
  exact⟨rfl,fin_do hb0 hz.typed ⟨hg.lo.1,hg.lo.2.1⟩ (by have:=hg.n2;omega) hx1 hXE hm.ge.1 hm'.bel hm'.lt ha (Below.refl _ _) hD4.box hal7 ⟨v,u2,hD7⟩ hb8⟩)
 clear hc1 hz hg hx hx1
 go_enter Tryz.func9,Tryz.ntmps9
 go_wp2_with (first
  | (go_at_call 18;rw[HW1.out];refine HC.out.mono ?_;rintro e w2 ⟨C,rfl,st2,st2d,c23⟩;have hq0:=(HQ9.out w2 st2).2;have C23:=hid c23;have ST:=hid st2d;rw[HR.out];clear c23 HC st2 st2d))
 have hS0:=(HQ9.out _ ST.out).1
 refine wp_region_held_drew (S:=Q9 r X R NM TG TX kn PL) (by kernel_rfl) hS0 (fun hHeld=>?_)
 generalize w2.drew=u0 at hHeld hS0 C23 ST ⊢
 iterate 8
  refine qq (v:=?_) hHeld ?_ ?_
  rotate_left
  ·rintro w' ⟨c0,c1,c2,c3,c4,_⟩;go_simp;rfl
  try simp only[Act.put,sL]
 refine vv 8 23 [.tmp 61,.tmp 63,.tmp 65] [.pointer (some ⟨R,0,none⟩),.string NM,.string TG] C23.out ?_
 rintro e w4 ⟨ev,rfl,st4,c24⟩
 refine⟨_,rfl,(HQ9.out _ st4).1,fun hHeld=>?_⟩
 try simp only[Act.put,sL]
 iterate 1
  refine qq (v:=?_) hHeld ?_ ?_
  rotate_left
  ·rintro w' ⟨c0,c1,c2,c3,c4,_⟩;go_simp;rfl
  try simp only[Act.put,sL]
 refine wpAnyH_done (by kernel_rfl) ?_ _
 obtain⟨q0,q1,q2,q3,q4,_⟩:=(HQ9.out _ st4).1
 clear hHeld hS0 st4
 go_wp2_with (first
  | (go_at_call 24;refine c24.mono ?_;rintro e w7 ⟨kk,rfl,c13⟩;have C13:=hid c13;clear c13 c24)
  | (go_at_call 13;refine C13.out.mono ?_;rintro e w8 ⟨rfl,p8⟩;have P8:=hid p8;clear p8))
 exact bodyPost_ret (results_tmp3 Tryz.results9 _ _ _) rfl P8.out
theorem do3_any {w0:World} {X k:Nat} {S XE:Nat->Prop} {N D R t n:Nat} {T:Ts} {oz:Option (List Int)} {go:Bool} {Q:Nat} {rs:List Rx} {ls:List Ex} (s:Ls) (w:World) (hk:k<100) (hb0:Below w0.heap.size w0 w) (hgb:Gb w0) (hz:Pz S XE N D R w oz go t n T) (hol:∀ z,oz=some z->z.length<=500000000) (hdq:∃ v1 v2,Dq 0 w Q v1 v2 rs ls) (hiv:Iv k (aT T) rs ls) (hn1:n<=201*k) (hn2:N<=10*k+16) (hlo0:(∀ i,S i->w0.heap.size<=i)/\w0.heap.size<=R) (hx:Wx w X D R Q) (hXE:XE X) (hs:s.k=3) :
  Calls Tryz.prog 9 #[.pointer (some ⟨X,0,none⟩),.agg (uX s).toArray] w (uY w0 X k D R w):=by
 obtain⟨r,HR⟩:=nm_ w.heap.size
 obtain⟨TA,HTA⟩:=nm_ ((uX s).toArray)
 obtain⟨W1,HW1⟩:=nm_ (w.alloc (.cells TA 41))
 obtain⟨cX,HCX⟩:=nm_ (#[.pointer (some ⟨D,0,none⟩),.pointer (some ⟨R,0,none⟩),.pointer (some ⟨Q,0,none⟩)] : Array Value)
 have hx1:w.heap[X]? = some (.cells cX 34 (0,0)):=by rw[<-HCX.out];exact hx
 have hc1:=QK (TA:=TA) hz hdq hb0 hgb hlo0 hx1 HW1.out
 rw[HR.out] at hc1
 have hcw:W1.cell? ⟨X,2,none⟩=some (.pointer (some ⟨Q,0,none⟩)):=by
  have:W1.heap[X]? = some (.cells cX 34 (0,0)):=by rw[<-HW1.out,heap_alloc_old _ _ (z7 hx1)];exact hx1
  rw[<-HCX.out] at this
  simp[World.cell?,this]
 rw[<-HW1.out] at hcw
 obtain⟨NM,HNM⟩:=nm_ (⟨s.nm.toArray⟩:ByteArray)
 obtain⟨TG,HTG⟩:=nm_ (⟨s.tg.toArray⟩:ByteArray)
 obtain⟨TX,HTX⟩:=nm_ (⟨s.tx.toArray⟩:ByteArray)
 obtain⟨kn,HKN⟩:=nm_ s.n
 obtain⟨PL,HPL⟩:=nm_ (Y9 s.who)
 have hP4:PL.length=4:=by rw[<-HPL.out];rfl
 have HI38:Hid ((Tryz.prog.info? 38).map (·.size)=some PL.length):=hid (by rw[hP4];kernel_rfl)
 have HI74:Hid ((Tryz.prog.info? 74).map (·.size)=some PL.toArray.size):=hid (by rw[List.size_toArray,hP4];kernel_rfl)
 have HPS:Hid ((4:Nat)=PL.toArray.size):=hid (by rw[List.size_toArray,hP4])
 have HPO:Hid (PL.toArray.all (·.oneCell')=true):=hid (by rw[<-HPL.out];exact all_oneCell_toArray (fun v hv=>by simp[Y9] at hv;rcases hv with rfl | rfl | rfl | rfl <;> rfl))
 have hT15:TA.size=15:=by rw[<-HTA.out];rfl
 have HI41:Hid ((Tryz.prog.info? 41).map (·.size)=some TA.size):=hid (by rw[hT15];kernel_rfl)
 have HQ9:Hid (∀ W,St9 r X TA cX W->Q9 r X R NM TG TX kn PL W/\W.cell? ⟨r,0,none⟩=some (.int .i64 3)):=fun W h=>by
  obtain⟨g0,g7,g8,g9,g10,gp⟩:=h.cs HTA.out
  have h':=h
  rw[<-HCX.out] at h'
  refine⟨⟨h'.cx.1,by rw[<-HNM.out];exact g8,by rw[<-HTG.out];exact g9,by rw[<-HKN.out];exact g10,by rw[<-HTX.out];exact g7,by rw[<-HPL.out];exact gp⟩,?_⟩
  rw[hs] at g0
  exact g0
 rw[HTA.out]
 have HC:Hid (Calls Tryz.prog 18 #[.pointer (some ⟨Q,0,none⟩)] W1 fun e w2=>∃ C,e=.returned (.pointer (some ⟨C,0,none⟩))/\St9 r X TA cX w2/\Calls Tryz.prog 25 #[.pointer (some ⟨R,0,none⟩)] w2 fun e w4=>e=.returned .nilIface/\Calls Tryz.prog 13 #[.nilIface] w4 fun e w8=>e=.returned (.int .i64 0)/\uY w0 X k D R w (.returned (.tuple #[.int .i64 0,.pointer (some ⟨C,0,none⟩),.int .i64 0])) w8):=hid (by
  refine hc1.mono ?_
  rintro e w2 ⟨C,rfl,hm⟩
  refine⟨C,rfl,hm.st,?_⟩
  refine(packR_any _ _ N D R w2 oz go t n T hm.pz.fd hm.pz.rf hm.pz.nS hm.pz.lim hm.pz.tt (by omega) (by omega) hol (hiv.toIb.fewT (by omega) rfl) hm.g.2.tab hm.g.2.db).mono ?_
  intro e4 w4 hp
  have ha:=pk_both hiv hn1 hk hp
  have hal:Al (Sr (fun i=>S i/\nD w i) R) w2 w4:=by
   obtain⟨_,_,_,_,_,_,_,_,_,_,_,_,_,hgr⟩:=ha
   exact hgr.al
  obtain⟨st4,⟨u1,u2,hD4⟩,gb4,lt4⟩:=hm.after hal
  refine⟨ha.1,(YY w4).mono ?_⟩
  rintro e8 w8 ⟨rfl,hb8⟩
  exact⟨rfl,fin_do hb0 hz.typed hlo0 hn2 hx1 hXE hm.ge.1 hm.bel hm.lt ha (Below.refl _ _) hD4.box (Al.refl _ _) ⟨u1,u2,hD4⟩ hb8⟩)
 clear hc1 hz hx hx1 hdq hiv
 go_enter Tryz.func9,Tryz.ntmps9
 go_wp2_with (first
  | (go_at_call 18;rw[HW1.out];refine HC.out.mono ?_;rintro e w2 ⟨C,rfl,st2,c25⟩;have hq0:=(HQ9.out w2 st2).2;have hq1:=(HQ9.out w2 st2).1.c0;have C25:=hid c25;rw[HR.out];clear c25 HC st2)
  | (go_at_call 25;refine C25.out.mono ?_;rintro e w4 ⟨rfl,c13⟩;have C13:=hid c13;clear c13)
  | (go_at_call 13;refine C13.out.mono ?_;rintro e w8 ⟨rfl,p8⟩;have P8:=hid p8;clear p8))
 exact bodyPost_ret (results_tmp3 Tryz.results9 _ _ _) rfl P8.out
theorem do4_any {w0:World} {X k:Nat} {S XE:Nat->Prop} {N D R t n:Nat} {T:Ts} {o:Option (List (List Sp))} {Q:Nat} {rs:List Rx} {ls:List Ex} (s:Ls) (w:World) (hk:k<100) (hb0:Below w0.heap.size w0 w) (hgb:Gb w0) (hg:Gs w0.heap.size k S XE N D R t n T o Q rs ls w) (hx:Wx w X D R Q) (hXE:XE X) (hs:s.k=4) (hnb : -9223372036854775808<=s.n/\s.n<=9223372036854775807) :
  Calls Tryz.prog 9 #[.pointer (some ⟨X,0,none⟩),.agg (uX s).toArray] w (uY w0 X k D R w):=by
 have hz:=hg.pw.z
 obtain⟨r,HR⟩:=nm_ w.heap.size
 obtain⟨TA,HTA⟩:=nm_ ((uX s).toArray)
 obtain⟨W1,HW1⟩:=nm_ (w.alloc (.cells TA 41))
 obtain⟨cX,HCX⟩:=nm_ (#[.pointer (some ⟨D,0,none⟩),.pointer (some ⟨R,0,none⟩),.pointer (some ⟨Q,0,none⟩)] : Array Value)
 have hx1:w.heap[X]? = some (.cells cX 34 (0,0)):=by rw[<-HCX.out];exact hx
 have hc1:=QK (TA:=TA) hz hg.dq hb0 hgb ⟨hg.lo.1,hg.lo.2.1⟩ hx1 HW1.out
 rw[HR.out] at hc1
 have hcw:W1.cell? ⟨X,2,none⟩=some (.pointer (some ⟨Q,0,none⟩)):=by
  have:W1.heap[X]? = some (.cells cX 34 (0,0)):=by rw[<-HW1.out,heap_alloc_old _ _ (z7 hx1)];exact hx1
  rw[<-HCX.out] at this
  simp[World.cell?,this]
 rw[<-HW1.out] at hcw
 obtain⟨NM,HNM⟩:=nm_ (⟨s.nm.toArray⟩:ByteArray)
 obtain⟨TG,HTG⟩:=nm_ (⟨s.tg.toArray⟩:ByteArray)
 obtain⟨TX,HTX⟩:=nm_ (⟨s.tx.toArray⟩:ByteArray)
 obtain⟨kn,HKN⟩:=nm_ s.n
 obtain⟨PL,HPL⟩:=nm_ (Y9 s.who)
 have hP4:PL.length=4:=by rw[<-HPL.out];rfl
 have HI38:Hid ((Tryz.prog.info? 38).map (·.size)=some PL.length):=hid (by rw[hP4];kernel_rfl)
 have HI74:Hid ((Tryz.prog.info? 74).map (·.size)=some PL.toArray.size):=hid (by rw[List.size_toArray,hP4];kernel_rfl)
 have HPS:Hid ((4:Nat)=PL.toArray.size):=hid (by rw[List.size_toArray,hP4])
 have HPO:Hid (PL.toArray.all (·.oneCell')=true):=hid (by rw[<-HPL.out];exact all_oneCell_toArray (fun v hv=>by simp[Y9] at hv;rcases hv with rfl | rfl | rfl | rfl <;> rfl))
 have hT15:TA.size=15:=by rw[<-HTA.out];rfl
 have HI41:Hid ((Tryz.prog.info? 41).map (·.size)=some TA.size):=hid (by rw[hT15];kernel_rfl)
 have HQ9:Hid (∀ W,St9 r X TA cX W->Q9 r X R NM TG TX kn PL W/\W.cell? ⟨r,0,none⟩=some (.int .i64 4)):=fun W h=>by
  obtain⟨g0,g7,g8,g9,g10,gp⟩:=h.cs HTA.out
  have h':=h
  rw[<-HCX.out] at h'
  refine⟨⟨h'.cx.1,by rw[<-HNM.out];exact g8,by rw[<-HTG.out];exact g9,by rw[<-HKN.out];exact g10,by rw[<-HTX.out];exact g7,by rw[<-HPL.out];exact gp⟩,?_⟩
  rw[hs] at g0
  exact g0
 rw[HTA.out]
 have HC:Hid (Calls Tryz.prog 18 #[.pointer (some ⟨Q,0,none⟩)] W1 fun e w2=>∃ C,e=.returned (.pointer (some ⟨C,0,none⟩))/\St9 r X TA cX w2/\St9 r X TA cX w2.drew/\Calls Tryz.prog 26 #[.pointer (some ⟨R,0,none⟩),.string NM,.int .i64 kn] w2.drew fun e w4=>∃ ev,e=.returned ev/\St9 r X TA cX w4/\Calls Tryz.prog 27 #[.pointer (some ⟨C,0,none⟩),.string NM,.int .i64 kn] w4 fun e w7=>∃ kk,e=.returned (.int .i64 kk)/\Calls Tryz.prog 13 #[ev] w7 fun e w8=>e=.returned (.int .i64 kk)/\uY w0 X k D R w (.returned (.tuple #[.int .i64 kk,.pointer (some ⟨C,0,none⟩),.int .i64 kk])) w8):=hid (by
  refine hc1.mono ?_
  rintro e w2 ⟨C,rfl,hm⟩
  have hm':=hm.below (zv _ w2 1)
  have hpw:=hm'.pz.w
  refine⟨C,rfl,hm.st,hm'.st,?_⟩
  have h26:=expire_any _ _ N D R w2.drew _ t n T s.nm s.n hnb.1 hnb.2 hpw (by have:=hg.n2;omega) (by have:=hg.n1;omega) (fl_f hg.fl (by omega)) (fun T' i hT'=>(ex_Ib hg.iv.toIb s.nm i).fewT (by omega) hT') hm'.g.2.tab hm'.g.2.db hm'.g.2.mx
  unfold sV at h26
  rw[HNM.out,HKN.out] at h26
  refine h26.mono ?_
  rintro e4 w4 hp
  rw[<-HKN.out] at hp
  have ha:=ex_both hpw hg.iv hg.fl hg.n1 hk hp
  have hal:Al (Sr (fun i=>S i/\nD w i) R) w2.drew w4:=by
   obtain⟨_,_,_,_,_,_,_,_,_,_,_,_,_,hgr⟩:=ha
   exact hgr.al
  obtain⟨st4,⟨u1,u2,hD4⟩,gb4,lt4⟩:=hm'.after hal
  refine⟨_,ha.1,st4,?_⟩
  have h27:=expireD_any s.nm s.n hnb.1 hnb.2 w4 hD4 (Nat.zero_le _)
  unfold sV at h27
  rw[HNM.out,HKN.out] at h27
  refine h27.mono ?_
  rintro e7 w7 ⟨rfl,⟨v,hD7⟩,hal7⟩
  rw[<-HKN.out] at hD7
  have c7:C00 w7:=by
   have:=gb4.c0
   unfold C00 at this ⊢
   rw[World.cell?_of_block (a:=⟨0,0,none⟩) (hal7.blk 0 (Nm.cell_lt this) (by have:=hm.ge.1;have:=hb0.size;have h0:=Nm.cell_lt hgb.c0;simp only at h0;omega))]
   exact this
  refine⟨_,rfl,(tell_er _ w7 c7).mono ?_⟩
  rintro e8 w8 ⟨rfl,hb8⟩
  exact⟨rfl,fin_do hb0 hz.typed ⟨hg.lo.1,hg.lo.2.1⟩ (by have:=hg.n2;omega) hx1 hXE hm.ge.1 hm'.bel hm'.lt ha (Below.refl _ _) hD4.box hal7 ⟨u1,v,hD7⟩ hb8⟩)
 clear hc1 hz hg hx hx1
 go_enter Tryz.func9,Tryz.ntmps9
 go_wp2_with (first
  | (go_at_call 18;rw[HW1.out];refine HC.out.mono ?_;rintro e w2 ⟨C,rfl,st2,st2d,c23⟩;have hq0:=(HQ9.out w2 st2).2;have C23:=hid c23;have ST:=hid st2d;rw[HR.out];clear c23 HC st2 st2d))
 have hS0:=(HQ9.out _ ST.out).1
 refine wp_region_held_drew (S:=Q9 r X R NM TG TX kn PL) (by kernel_rfl) hS0 (fun hHeld=>?_)
 generalize w2.drew=u0 at hHeld hS0 C23 ST ⊢
 iterate 8
  refine qq (v:=?_) hHeld ?_ ?_
  rotate_left
  ·rintro w' ⟨c0,c1,c2,c3,c4,_⟩;go_simp;rfl
  try simp only[Act.put,sL]
 refine vv 8 26 [.tmp 92,.tmp 94,.tmp 96] [.pointer (some ⟨R,0,none⟩),.string NM,.int .i64 kn] C23.out ?_
 rintro e w4 ⟨ev,rfl,st4,c24⟩
 refine⟨_,rfl,(HQ9.out _ st4).1,fun hHeld=>?_⟩
 try simp only[Act.put,sL]
 iterate 1
  refine qq (v:=?_) hHeld ?_ ?_
  rotate_left
  ·rintro w' ⟨c0,c1,c2,c3,c4,_⟩;go_simp;rfl
  try simp only[Act.put,sL]
 refine wpAnyH_done (by kernel_rfl) ?_ _
 obtain⟨q0,q1,q2,q3,q4,_⟩:=(HQ9.out _ st4).1
 clear hHeld hS0 st4
 go_wp2_with (first
  | (go_at_call 27;refine c24.mono ?_;rintro e w7 ⟨kk,rfl,c13⟩;have C13:=hid c13;clear c13 c24)
  | (go_at_call 13;refine C13.out.mono ?_;rintro e w8 ⟨rfl,p8⟩;have P8:=hid p8;clear p8))
 exact bodyPost_ret (results_tmp3 Tryz.results9 _ _ _) rfl P8.out
theorem do1_any {w0:World} {X k:Nat} {S XE:Nat->Prop} {N D R t n:Nat} {T:Ts} {o:Option (List (List Sp))} {Q:Nat} {rs:List Rx} {ls:List Ex} (s:Ls) (w:World) (hk:k<100) (hb0:Below w0.heap.size w0 w) (hgb:Gb w0) (hg:Gs w0.heap.size k S XE N D R t n T o Q rs ls w) (hx:Wx w X D R Q) (hXE:XE X) (hs:s.k=1) (hP:Px qz 41 dMv w0 s.a s.c s.ms) (hok:∀ m ∈ s.ms,xw m) (hsm:smL s) :
  Calls Tryz.prog 9 #[.pointer (some ⟨X,0,none⟩),.agg (uX s).toArray] w (uY w0 X k D R w):=by
 have hz:=hg.pw.z
 obtain⟨r,HR⟩:=nm_ w.heap.size
 obtain⟨TA,HTA⟩:=nm_ ((uX s).toArray)
 obtain⟨W1,HW1⟩:=nm_ (w.alloc (.cells TA 41))
 obtain⟨cX,HCX⟩:=nm_ (#[.pointer (some ⟨D,0,none⟩),.pointer (some ⟨R,0,none⟩),.pointer (some ⟨Q,0,none⟩)] : Array Value)
 have hx1:w.heap[X]? = some (.cells cX 34 (0,0)):=by rw[<-HCX.out];exact hx
 have hc1:=QK (TA:=TA) hz hg.dq hb0 hgb ⟨hg.lo.1,hg.lo.2.1⟩ hx1 HW1.out
 rw[HR.out] at hc1
 have hcw:W1.cell? ⟨X,2,none⟩=some (.pointer (some ⟨Q,0,none⟩)):=by
  have:W1.heap[X]? = some (.cells cX 34 (0,0)):=by rw[<-HW1.out,heap_alloc_old _ _ (z7 hx1)];exact hx1
  rw[<-HCX.out] at this
  simp[World.cell?,this]
 rw[<-HW1.out] at hcw
 obtain⟨NM,HNM⟩:=nm_ (⟨s.nm.toArray⟩:ByteArray)
 obtain⟨TG,HTG⟩:=nm_ (⟨s.tg.toArray⟩:ByteArray)
 obtain⟨TX,HTX⟩:=nm_ (⟨s.tx.toArray⟩:ByteArray)
 obtain⟨kn,HKN⟩:=nm_ s.n
 obtain⟨PL,HPL⟩:=nm_ (Y9 s.who)
 have hP4:PL.length=4:=by rw[<-HPL.out];rfl
 have HI38:Hid ((Tryz.prog.info? 38).map (·.size)=some PL.length):=hid (by rw[hP4];kernel_rfl)
 have HI74:Hid ((Tryz.prog.info? 74).map (·.size)=some PL.toArray.size):=hid (by rw[List.size_toArray,hP4];kernel_rfl)
 have HPS:Hid ((4:Nat)=PL.toArray.size):=hid (by rw[List.size_toArray,hP4])
 have HPO:Hid (PL.toArray.all (·.oneCell')=true):=hid (by rw[<-HPL.out];exact all_oneCell_toArray (fun v hv=>by simp[Y9] at hv;rcases hv with rfl | rfl | rfl | rfl <;> rfl))
 have hT15:TA.size=15:=by rw[<-HTA.out];rfl
 have HI41:Hid ((Tryz.prog.info? 41).map (·.size)=some TA.size):=hid (by rw[hT15];kernel_rfl)
 have HQ9:Hid (∀ W,St9 r X TA cX W->Q9 r X R NM TG TX kn PL W/\W.cell? ⟨r,0,none⟩=some (.int .i64 1)):=fun W h=>by
  obtain⟨g0,g7,g8,g9,g10,gp⟩:=h.cs HTA.out
  have h':=h
  rw[<-HCX.out] at h'
  refine⟨⟨h'.cx.1,by rw[<-HNM.out];exact g8,by rw[<-HTG.out];exact g9,by rw[<-HKN.out];exact g10,by rw[<-HTX.out];exact g7,by rw[<-HPL.out];exact gp⟩,?_⟩
  rw[hs] at g0
  exact g0
 rw[HTA.out]
 obtain⟨L,HL⟩:=nm_ s.ms.length
 have HC:Hid (Calls Tryz.prog 18 #[.pointer (some ⟨Q,0,none⟩)] W1 fun e w2=>∃ C,e=.returned (.pointer (some ⟨C,0,none⟩))/\St9 r X TA cX w2/\Calls Tryz.prog 19 #[.pointer (some ⟨X,0,none⟩),.agg TA] w2 fun e w3=>∃ va vc vb vd,e=.returned (.tuple #[.slice va L vc,.slice vb L vd])/\St9 r X TA cX w3.drew/\Calls Tryz.prog 20 #[.pointer (some ⟨R,0,none⟩),.slice va L vc,.agg PL.toArray,.string TX] w3.drew fun e w4=>∃ ev,e=.returned ev/\St9 r X TA cX w4/\Calls Tryz.prog 21 #[.agg PL.toArray] w4 fun e w5=>e=.returned (.agg PL.toArray)/\∃ W6,w5.alloc (.cells PL.toArray 74)=W6/\W6.heap[w5.heap.size]? = some (.cells PL.toArray 74)/\St9 r X TA cX W6/\Calls Tryz.prog 22 #[.pointer (some ⟨C,0,none⟩),.slice vb L vd,.agg PL.toArray,.string TX] W6 fun e w7=>∃ kk,e=.returned (.int .i64 kk)/\Calls Tryz.prog 13 #[ev] w7 fun e w8=>e=.returned (.int .i64 kk)/\uY w0 X k D R w (.returned (.tuple #[.int .i64 kk,.pointer (some ⟨C,0,none⟩),.int .i64 kk])) w8):=hid (by
  refine hc1.mono ?_
  rintro e w2 ⟨C,rfl,hm⟩
  refine⟨C,rfl,hm.st,?_⟩
  obtain⟨v1,v2,hdQ⟩:=hg.dq
  have hst:=hm.st
  rw[<-HCX.out] at hst
  have hPw:∀ W,Below w0.heap.size w0 W->Px qz 41 dMv W s.a s.c s.ms:=fun W hW=>hP.below hW
  have h19:=changes_any X s w2 hst.cx.2 (hdQ.below hm.bel) (hPw w2 hm.g.1) hok hsm.1
  rw[HTA.out] at h19
  refine h19.mono ?_
  rintro e3 w3 ⟨va,vc,vb,vd,he3,hPa,hPb,hb3,hloc⟩
  rw[HL.out] at he3
  have hm3:=(hm.below hb3).below (zv _ w3 1)
  refine⟨va,vc,vb,vd,he3,hm3.st,?_⟩
  obtain⟨ms,hms⟩:∃ ms,s.ms.map (chM rs s.rot)=ms:=⟨_,rfl⟩
  rw[hms] at hPa hPb
  have hml:ms.length=L:=by rw[<-hms,List.length_map,HL.out]
  have hmo:∀ m ∈ ms,xw m:=fun m hmm=>by
   rw[<-hms] at hmm
   obtain⟨m',hm',rfl⟩:=List.mem_map.1 hmm
   exact chM_ok hdQ.ok1 s.rot (hok m' hm')
  have h20l:ms.length<=20:=by rw[<-hms,List.length_map];exact hsm.1
  have hpw:=hm3.pz.w
  have hPLe:PL.toArray=xq s.who:=by rw[<-HPL.out];rfl
  have h20:=update_any _ _ N D R w3.drew _ t n T va vc ms s.who s.tx hpw (hPa.below (zv _ w3 1)) hmo h20l (by have:=hsm.2;omega) (by have:=hg.n2;omega) (by have:=hg.n1;omega) (fl_f hg.fl (by omega)) (fun ws hw hnd=>up_ok hg.iv.toIb hk rfl (wk_of hg.iv.toIb (by rw[<-hg.iv.wy rfl];exact hw) hnd hmo h20l) s.who s.tx) hm3.g.2.tab hm3.g.2.db hm3.g.2.mx
  unfold sV at h20
  rw[HTX.out,hml,<-hPLe] at h20
  refine h20.mono ?_
  intro e4 w4 hp
  obtain⟨ev,rfl⟩:=post20_ret hp
  have hal:=post20_al hp
  obtain⟨st4,⟨u1,u2,hD4⟩,gb4,lt4⟩:=hm3.after hal
  refine⟨ev,rfl,st4,?_⟩
  have h21:=person_any s.who w4
  rw[<-hPLe] at h21
  refine h21.mono ?_
  rintro e5 w5 ⟨rfl,hb5⟩
  have hb6:Below w4.heap.size w4 (w5.alloc (.cells PL.toArray 74)):=hb5.alloc hb5.size _
  have st6:St9 r X TA cX (w5.alloc (.cells PL.toArray 74)):=⟨(hb6.block r (z7 st4.b)).trans st4.b,(hb6.block X (z7 st4.x)).trans st4.x⟩
  refine⟨rfl,_,rfl,heap_alloc_new _ _,st6,?_⟩
  have hD6:=hD4.below hb6
  have hPb4:Px qz 41 dMv w4 vb vd ms:=(hPb.below (zv _ w3 1)).tf (fun q hq=>?_) hal.size
  ·have h22:=updateD_any vb vd ms s.who s.tx _ hD6 (Nat.zero_le _) (hPb4.below hb6) hmo h20l (by have:=hsm.2;omega) (by have:=hg.iv.n1;omega) (by have:=hg.iv.n2;omega)
   unfold sV at h22
   rw[HTX.out,hml,<-hPLe] at h22
   refine h22.mono ?_
   rintro e7 w7 ⟨k2,rs2,ls2,hd2,rfl,hD7,hal7⟩
   have ha:=up_both hpw hg.iv hg.fl hg.n1 hk hmo h20l hp hd2
   have hev:ev=erV k2:=by have:=ha.1;injection this
   have c6:=(gb4.below hb6).c0
   have c7:C00 w7:=by
    unfold C00 at c6 ⊢
    rw[World.cell?_of_block (a:=⟨0,0,none⟩) (hal7.blk 0 (Nm.cell_lt c6) (by have:=hm.ge.1;have:=hb0.size;have h0:=Nm.cell_lt hgb.c0;simp only at h0;omega))]
    exact c6
   refine⟨k2,rfl,?_⟩
   rw[hev]
   refine(tell_er k2 w7 c7).mono ?_
   rintro e8 w8 ⟨rfl,hb8⟩
   exact⟨rfl,fin_do hb0 hz.typed ⟨hg.lo.1,hg.lo.2.1⟩ (by have:=hg.n2;omega) hx1 hXE hm.ge.1 hm3.bel hm3.lt ha hb6 hD6.box hal7 hD7 hb8⟩
  ·obtain⟨l1,l2⟩:=hloc q hq
   have hge:=hm.bel.size
   refine hal.blk q.block l2 (fun hi=>?_)
   rcases hi with hi | hi
   ·have:=hm.lim.1 _ hi.1;omega
   ·have:=hm.lim.2;omega)
 clear hc1 hz hg hx hx1 hP hok
 go_enter Tryz.func9,Tryz.ntmps9
 go_wp2_with (first
  | (go_at_call 18;rw[HW1.out];refine HC.out.mono ?_;rintro e w2 ⟨C,rfl,st2,c19⟩;have hq0:=(HQ9.out w2 st2).2;have C19:=hid c19;have HBX:=hid st2.b;rw[HR.out];clear c19 HC st2)
  | (refine zu rfl 41 (.tmp 3) rfl r TA 41 (0,0) _ rfl HBX.out Tryz.underlying41 rfl HI41.out ?_;go_frame)
  | (go_at_call 19;refine C19.out.mono ?_;rintro e w3 ⟨va,vc,vb,vd,rfl,st3,c20⟩;have C20:=hid c20;have ST:=hid st3;clear c20 st3))
 have hS0:=(HQ9.out _ ST.out).1
 refine wp_region_held_drew (S:=Q9 r X R NM TG TX kn PL) (by kernel_rfl) hS0 (fun hHeld=>?_)
 generalize w3.drew=u0 at hHeld hS0 C20 ST ⊢
 iterate 6
  refine qq (v:=?_) hHeld ?_ ?_
  rotate_left
  ·rintro w' ⟨c0,c1,c2,c3,c4,_⟩;go_simp;rfl
  try simp only[Act.put,sL]
 refine takeY (i:=6) (v:=.agg PL.toArray) hHeld (fun w' hw'=>qx 38 (.tmp 38) rfl r 3 rfl PL _ hw'.rp Tryz.underlying38 rfl HI38.out) ?_
 try simp only[Act.put,sL]
 iterate 2
  refine qq (v:=?_) hHeld ?_ ?_
  rotate_left
  ·rintro w' ⟨c0,c1,c2,c3,c4,_⟩;go_simp;rfl
  try simp only[Act.put,sL]
 refine vv 9 20 [.tmp 36,.tmp 37,.tmp 39,.tmp 41] [.pointer (some ⟨R,0,none⟩),.slice va L vc,.agg PL.toArray,.string TX] C20.out ?_
 rintro e w4 ⟨ev,rfl,st4,c21⟩
 refine⟨_,rfl,(HQ9.out _ st4).1,fun hHeld=>?_⟩
 try simp only[Act.put,sL]
 iterate 1
  refine qq (v:=?_) hHeld ?_ ?_
  rotate_left
  ·rintro w' ⟨c0,c1,c2,c3,c4,_⟩;go_simp;rfl
  try simp only[Act.put,sL]
 refine wpAnyH_done (by kernel_rfl) ?_ _
 have RP4:=hid (HQ9.out _ st4).1.rp
 have C21:=hid c21
 clear hHeld hS0 st4 c21
 go_wp2_with (first
  | (refine wpList_load_mid rfl 38 (.tmp 43) rfl _ _ rfl PL _ RP4.out Tryz.underlying38 rfl HI38.out ?_;go_frame)
  | (go_at_call 21;refine C21.out.mono ?_;rintro e w5 ⟨rfl,W6,hW6,hk6,st6,c22⟩;have HW6:=hid hW6;have HK6:=hid hk6;have hq6:=(HQ9.out _ st6).1.c4;have C22:=hid c22;clear hW6 hk6 st6 c22)
  | (refine zq rfl 74 (.tmp 11) (.tmp 45) rfl _ PL.toArray rfl rfl HI74.out HPS.out HPO.out ?_;rw[HW6.out];go_frame)
  | (refine zu rfl 74 (.tmp 11) rfl _ PL.toArray 74 (0,0) _ rfl HK6.out Tryz.underlying74 rfl HI74.out ?_;go_frame)
  | (go_at_call 22;refine C22.out.mono ?_;rintro e w7 ⟨kk,rfl,c13⟩;have C13:=hid c13;clear c13)
  | (go_at_call 13;refine C13.out.mono ?_;rintro e w8 ⟨rfl,p8⟩;have P8:=hid p8;clear p8))
 exact bodyPost_ret (results_tmp3 Tryz.results9 _ _ _) rfl P8.out
theorem fd_copy (S:Nat->Prop) (N D:Nat) (o:Option (List Int)) (w:World) (h:FD S N w D o) (hl:∀ z,o=some z->z.length<=500000000) :
  Calls Tryz.prog 7 #[.pointer (some ⟨D,0,none⟩)] w fun e w'=>∃ C,e=.returned (.pointer (some ⟨C,0,none⟩))/\Below w.heap.size w w'/\w.heap.size<=C/\FD (fun i=>w.heap.size<=i/\i<w'.heap.size) 2 w' C o:=by
 obtain⟨F,hk,hn,ho⟩:=h
 refine(copy_any S N D F pr w hk (fun y hy=>Classical.byContradiction fun hne=>hy (hn y hne)) ?_).mono ?_
 ·unfold fl
  cases hF:F pr with
  | none=>simp
  | some f =>
   rw[hF] at ho
   have:=hl f.zs ho.symm
   simpa using this
 ·rintro e w' ⟨C,rfl,hb,hC,Fc,h1,h2,h3⟩
  exact⟨C,rfl,hb,hC,Fc,h1,h2,by rw[h3];exact ho⟩
def cnF (o:Option (List (List Sp))):Nat:=match o with
 | none=>0
 | some bs=>bs.flatten.length
theorem cnF_le {k:Nat} {m:Rk.Tb Str Kp Le} {o:Option (List (List Sp))} (h:FlO k m o):cnF o<=201*k:=by
 cases o with
 | none=>exact Nat.zero_le _
 | some bs=>exact Fl.few h
theorem open_fl {S E:Nat->Prop} {N D k:Nat} {m:Rk.Tb Str Kp Le} {o:Option (List (List Sp))} (w:World) (h:FD S N w D ((Option.map fB o).map nm)) (hf:FlO k m o) (hc:Can m) (hk:k<=100) (hN:N<=90000) (hS:∀ i,S i->i<w.heap.size) (hE:∀ i,E i->i<w.heap.size) (hgb:Gb w) :
  Calls Tryz.prog 12 #[.pointer (some ⟨D,0,none⟩)] w (Post12 S E N D (Option.map fB o) m (cnF o) w):=by
 refine open_of S E N D _ m _ w hN hS hE (fun W R hb hp hR=>?_)
 have hl:∀ i,SrE S R E i->i<W.heap.size:=fun i hi=>by
  rcases hi with (hi | hi) | hi
  ·exact Nat.lt_of_lt_of_le (hS i hi) hb.size
  ·rw[hi];exact z7 hp.box
  ·exact Nat.lt_of_lt_of_le (hE i hi) hb.size
 cases o with
 | none =>
  have hm:m=noT:=hf
  rw[hm]
  exact findF_none S E N D R W (h.below hb) hp hl hN
 | some bs =>
  have hf':Fl k m bs:=hf
  have hgW:=hgb.below hb
  have hlen:=hf'.len hk
  have:=findF_some S E N D R bs W (h.below hb) hp hl hN hf'.ne hf'.ok hf'.g (by have:=hf'.few;omega) (by omega) (by rw[hf'.m];exact hc) hgW.tab hgW.ers hgW.mx hgW.db hgW.ec
  rw[hf'.m] at this
  exact this
theorem Dq.alX {G Q X:Nat} {w W:World} {v1 v2:Value} {rs:List Rx} {ls:List Ex} (h:Dq G w Q v1 v2 rs ls) (ha:Al (fun i=>i=X) w W) {c:Array Value} (hX:w.heap[X]? = some (.cells c 34 (0,0))):Dq G W Q v1 v2 rs ls:=by
 refine⟨(ha.blk Q (z7 h.box) (fun e=>by rw[<-e,h.box] at hX;cases hX)).trans h.box,own_al h.r1 ha (fun i hi e=>?_),own_al h.r2 ha (fun i hi e=>?_),h.ok1,h.ok2,h.few⟩
 ·obtain⟨cur,hc⟩:=own_ty h.r1 hi
  rw[e,hX] at hc
  cases hc
 ·obtain⟨cur,hc⟩:=own_ty h.r2 hi
  rw[e,hX] at hc
  cases hc
def Inv (w0:World) (X k:Nat) (W:World):Prop := ∃ S XE N D R t n T o Q rs ls,Gs w0.heap.size k S XE N D R t n T o Q rs ls W/\Wx W X D R Q/\XE X/\Below w0.heap.size w0 W/\w0.heap.size<=X
theorem Inv.below {w0:World} {X k:Nat} {W W':World} (h:Inv w0 X k W) (hb:Below W.heap.size W W'):Inv w0 X k W':=by
 obtain⟨S,XE,N,D,R,t,n,T,o,Q,rs,ls,hg,hx,h1,h2,h3⟩:=h
 exact⟨S,XE,N,D,R,t,n,T,o,Q,rs,ls,hg.below hb,(hb.block X (z7 hx)).trans hx,h1,h2.trans (hb.mono hg.sz),h3⟩
theorem nm_b {k:Nat} {m:Rk.Tb Str Kp Le} {o:Option (List (List Sp))} (h:FlO k m o) (hk:k<=100):∀ z,(Option.map fB o).map nm=some z->z.length<=500000000:=fun z hz=>by
 cases o with
 | none=>cases hz
 | some bs =>
  cases hz
  rw[yX]
  have:=Fl.len (show Fl k m bs from h) hk
  omega
theorem reopen {w0 W:World} {X k:Nat} {S:Nat->Prop} {N D:Nat} {m:Rk.Tb Str Kp Le} {o:Option (List (List Sp))} {v1 v2:Value} (hfd:FD S N W D ((Option.map fB o).map nm)) (hf:FlO k m o) (hc:Can m) (hk:k<=100) (hX:W.heap[X]? = some (.cells #[.pointer (some ⟨D,0,none⟩),v1,v2] 34 (0,0))) (hb0:Below w0.heap.size w0 W) (hgb:Gb w0) (hX0:w0.heap.size<=X) :
  Calls Tryz.prog 7 #[.pointer (some ⟨D,0,none⟩)] W fun e w1=>∃ D2,e=.returned (.pointer (some ⟨D2,0,none⟩))/\Below W.heap.size W w1/\w1.cell? ⟨X,0,none⟩=some (.pointer (some ⟨D,0,none⟩))/\w1.frozen? ⟨X,0,none⟩=false/\Calls Tryz.prog 6 #[.pointer (some ⟨X,0,none⟩)] (w1.setCell ⟨X,0,none⟩ (.pointer (some ⟨D2,0,none⟩))) fun e w2=>e=.returned (.bool true)/\Al (fun i=>i=X) W w2/\∃ S2 R2 t2 T2,Pw S2 (fun i=>i=X) 2 D2 R2 w2 (Option.map fB o) t2 (cnF o) T2/\aT T2=m/\(∀ i,S2 i->W.heap.size<=i)/\W.heap.size<=R2/\w2.heap[X]? = some (.cells #[.pointer (some ⟨D2,0,none⟩),.pointer (some ⟨R2,0,none⟩),v2] 34 (0,0)):=by
 refine(fd_copy S N D _ W hfd (nm_b hf hk)).mono ?_
 rintro e w1 ⟨D2,rfl,hb1,hD2,hfd2⟩
 have hX1:=(hb1.block X (z7 hX)).trans hX
 refine⟨D2,rfl,hb1,by simp[World.cell?,hX1],by simp[World.frozen?,hX1],?_⟩
 obtain⟨W',hW'⟩:∃ W',w1.setCell ⟨X,0,none⟩ (.pointer (some ⟨D2,0,none⟩))=W':=⟨_,rfl⟩
 have hX2:W'.heap[X]? = some (.cells #[.pointer (some ⟨D2,0,none⟩),v1,v2] 34 (0,0)):=by rw[<-hW',qy hX1];rfl
 have hs:W'.heap.size=w1.heap.size:=by rw[<-hW'];simp[World.setCell]
 have hal:Al (fun i=>i=X) W W':=by rw[<-hW'];exact(Al.below hb1).trans (Al.of_set (S:=fun i=>i=X) (p:=⟨X,0,none⟩) rfl _) (fun i h=>.inl h)
 have hfd':FD (fun i=>W.heap.size<=i/\i<w1.heap.size) 2 W' D2 ((Option.map fB o).map nm):=by rw[<-hW'];exact hfd2.tf (Tf.set (p:=⟨X,0,none⟩) hX1 _) (by simp[World.setCell]) (by decide)
 have hb':Below w0.heap.size w0 W':=hb0.trans (uQ hal (fun i hi=>by rw[hi];exact hX0) hb0.size)
 rw[hW']
 have h12:=open_fl (E:=fun i=>i=X) W' hfd' hf hc hk (by omega) (fun i hi=>by rw[hs];exact hi.2) (fun i hi=>by rw[hi];exact z7 hX2) (hgb.below hb')
 refine(open6_of _ _ 2 D2 X _ m _ v1 v2 W' h12 hX2 (fun hh=>by have:=z7 hX;omega) rfl).mono ?_
 rintro e w2 ⟨rfl,R2,t2,T2,hR2,hp,hA,hbx,hal2⟩
 refine⟨rfl,hal.trans hal2 (fun i hi=>?_),_,R2,t2,T2,hp,hA,fun i hi=>hi.1,by have:=hb1.size;omega,hbx⟩
 rcases hi with hi | hi
 ·exact .inr hi.1
 ·exact .inl hi
theorem chk {w0 W:World} {X k:Nat} {S XE:Nat->Prop} {N D R t n:Nat} {T:Ts} {o:Option (List (List Sp))} {Q:Nat} {rs:List Rx} {ls:List Ex} (nme:Str) (NB:ByteArray) (hNB:(⟨nme.toArray⟩:ByteArray)=NB) (hk:k<=100) (hg:Gs w0.heap.size k S XE N D R t n T o Q rs ls W) (hx:Wx W X D R Q) (hb0:Below w0.heap.size w0 W) (hgb:Gb w0) :
  Calls Tryz.prog 10 #[.pointer (some ⟨R,0,none⟩),.pointer (some ⟨Q,0,none⟩)] W fun e w1=>e=.returned (.bool true)/\Wx w1 X D R Q/\Calls Tryz.prog 11 #[.pointer (some ⟨R,0,none⟩),.pointer (some ⟨Q,0,none⟩),.string NB] w1 fun e w2=>e=.returned (.bool true)/\Wx w2 X D R Q/\Calls Tryz.prog 7 #[.pointer (some ⟨D,0,none⟩)] w2 fun e w3=>∃ D3,e=.returned (.pointer (some ⟨D3,0,none⟩))/\∃ W4,w3.alloc (.cells #[.pointer (some ⟨D3,0,none⟩),.pointer none,.pointer none] 34)=W4/\Calls Tryz.prog 6 #[.pointer (some ⟨w3.heap.size,0,none⟩)] W4 fun e w5=>e=.returned (.bool true)/\∃ R3,w5.cell? ⟨w3.heap.size,1,none⟩=some (.pointer (some ⟨R3,0,none⟩))/\Calls Tryz.prog 10 #[.pointer (some ⟨R3,0,none⟩),.pointer (some ⟨Q,0,none⟩)] w5 fun e w6=>e=.returned (.bool true)/\Below W.heap.size W w6:=by
 obtain⟨v1,v2,hd⟩:=hg.dq
 have hn9:=hg.n1
 have hst:∀ W',Below W.heap.size W W'->Gs w0.heap.size k S XE N D R t n T o Q rs ls W'/\Dq 0 W' Q v1 v2 rs ls/\Wx W' X D R Q/\Gb W'/\Below w0.heap.size w0 W':=fun W' hb=>by
  have h1:Below w0.heap.size w0 W':=hb0.trans (hb.mono hg.sz)
  exact⟨hg.below hb,hd.below hb,(hb.block X (z7 hx)).trans hx,hgb.below h1,h1⟩
 have gW:=hgb.below hb0
 refine(tells_any W hg.pw hd hg.iv.toIb hk (by omega) gW.mx gW.c0).mono ?_
 rintro e w1 ⟨rfl,hb1⟩
 obtain⟨g1,d1,x1,gb1,_⟩:=hst w1 hb1
 refine⟨rfl,x1,?_⟩
 have h11:=asks_any nme w1 g1.pw.rf g1.pw.tt d1 hg.iv.toIb gb1.mx gb1.c0
 unfold sV at h11
 rw[hNB] at h11
 refine h11.mono ?_
 rintro e w2 ⟨rfl,hb2⟩
 have hb2':Below W.heap.size W w2:=hb1.trans (hb2.mono hb1.size)
 obtain⟨g2,d2,x2,gb2,_⟩:=hst w2 hb2'
 refine⟨rfl,x2,(fd_copy S N D _ w2 g2.pw.fd (nm_b hg.fl hk)).mono ?_⟩
 rintro e w3 ⟨D3,rfl,hb3,hD3,hfd3⟩
 have hb3':Below W.heap.size W w3:=hb2'.trans (hb3.mono hb2'.size)
 refine⟨D3,rfl,_,rfl,?_⟩
 obtain⟨W4,hW4⟩:∃ x,w3.alloc (.cells #[.pointer (some ⟨D3,0,none⟩),.pointer none,.pointer none] 34)=x:=⟨_,rfl⟩
 have hb4:Below w3.heap.size w3 W4:=by rw[<-hW4];exact(Below.refl _ _).alloc (Nat.le_refl _) _
 have hs4:W4.heap.size=w3.heap.size+1:=by rw[<-hW4];simp
 have hX4:W4.heap[w3.heap.size]? = some (.cells #[.pointer (some ⟨D3,0,none⟩),.pointer none,.pointer none] 34 (0,0)):=by rw[<-hW4];exact heap_alloc_new _ _
 have hb4':Below W.heap.size W W4:=hb3'.trans (hb4.mono hb3'.size)
 rw[hW4]
 obtain⟨g4,d4,x4,gb4,b04⟩:=hst W4 hb4'
 have h12:=open_fl (E:=fun i=>i=w3.heap.size) W4 (hfd3.below hb4) hg.fl hg.iv.can hk (by omega) (fun i hi=>by rw[hs4];omega) (fun i hi=>by rw[hi,hs4];omega) gb4
 refine(open6_of _ _ 2 D3 w3.heap.size _ _ _ _ _ W4 h12 hX4 (fun hh=>by omega) rfl).mono ?_
 rintro e w5 ⟨rfl,R3,t3,T3,hR3,hp,hA,hbx,hal⟩
 have hb5:Below W.heap.size W w5:=hb4'.trans (uQ hal (fun i hi=>by
  have:=hb2'.size
  have:=hb3.size
  rcases hi with hi | hi
  ·omega
  ·omega) hb4'.size)
 obtain⟨g5,d5,x5,gb5,_⟩:=hst w5 hb5
 refine⟨rfl,R3,by simp[World.cell?,hbx],?_⟩
 refine(tells_any w5 hp d5 (by rw[hA];exact hg.iv.toIb) hk (by have:=cnF_le hg.fl;omega) gb5.mx gb5.c0).mono ?_
 rintro e w6 ⟨rfl,hb6⟩
 exact⟨rfl,hb5.trans (hb6.mono hb5.size)⟩
end Go.Proofs.YtgliaiemkfopeaaGreatDoor.K
