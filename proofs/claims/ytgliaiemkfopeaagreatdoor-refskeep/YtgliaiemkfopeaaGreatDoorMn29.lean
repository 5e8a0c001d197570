import Derived.Test.YtgliaiemkfopeaaGreatDoorMn24
import Derived.Test.YtgliaiemkfopeaaGreatDoorMn26
import Derived.Test.YtgliaiemkfopeaaGreatDoorMn28
set_option linter.unusedSimpArgs false
set_option linter.unusedVariables false
set_option maxRecDepth 20000
set_option maxHeartbeats 4000000
namespace Go.Proofs.YtgliaiemkfopeaaGreatDoor.K
open Go.RowKit
theorem Tryz.results19:Tryz.f19.results=#[.tmp 4,.tmp 5]:=by kernel_rfl
theorem Y6:(Tryz.prog.info? 117).map (fun i=>(i.zero,i.size,i.bytes))=some (some (.agg (sV [] :: (row .u8 zQ++row .u8 zQ)).toArray),41,56):=by kernel_rfl
theorem Y7:(Tryz.prog.info? 119).map (fun i=>(i.zero,i.size,i.bytes))=some (some (.agg (sV [] :: (row .u8 zQ++row .u8 zQ)).toArray),41,56):=by kernel_rfl
theorem zMv:(Value.agg (sV [] :: (row .u8 zQ++row .u8 zQ)).toArray).cells.size=41:=by kernel_rfl
theorem und36:Tryz.prog.underlying 36=some (.slice 117):=by kernel_rfl
theorem und69:Tryz.prog.underlying 69=some (.slice 119):=by kernel_rfl
theorem run_bs36 (x:Mv1) (h:xw x) (w:World):(Instr.buildSlice 36 1 #[(0,.agg (qz x).toArray)]).run Tryz.prog w=.ok (.slice (some ⟨w.heap.size,0,none⟩) 1 1) (w.alloc (.cells (qz x).toArray 117)):=by
 obtain⟨i,hq,hz,hs,_⟩:=qu Y6
 refine run_buildSlice w 36 117 1 _ (qz x).toArray i _ und36 hq hz (by rw[hs];decide) (by rw[hs];decide) ?_
 rw[hs]
 obtain⟨nme,x,y⟩:=x
 obtain⟨a0,a1,a2,a3,a4,a5,a6,a7,a8,a9,a10,a11,a12,a13,a14,a15,a16,a17,a18,a19,rfl⟩:=yZ x h.2.1.1
 obtain⟨b0,b1,b2,b3,b4,b5,b6,b7,b8,b9,b10,b11,b12,b13,b14,b15,b16,b17,b18,b19,rfl⟩:=yZ y h.2.2.1
 unfold qz sV
 simp only
 generalize (⟨nme.toArray⟩:ByteArray)=P4
 show _=_
 kernel_rfl
theorem run_bs69 (x:Mv1) (h:xw x) (w:World):(Instr.buildSlice 69 1 #[(0,.agg (qz x).toArray)]).run Tryz.prog w=.ok (.slice (some ⟨w.heap.size,0,none⟩) 1 1) (w.alloc (.cells (qz x).toArray 119)):=by
 obtain⟨i,hq,hz,hs,_⟩:=qu Y7
 refine run_buildSlice w 69 119 1 _ (qz x).toArray i _ und69 hq hz (by rw[hs];decide) (by rw[hs];decide) ?_
 rw[hs]
 obtain⟨nme,x,y⟩:=x
 obtain⟨a0,a1,a2,a3,a4,a5,a6,a7,a8,a9,a10,a11,a12,a13,a14,a15,a16,a17,a18,a19,rfl⟩:=yZ x h.2.1.1
 obtain⟨b0,b1,b2,b3,b4,b5,b6,b7,b8,b9,b10,b11,b12,b13,b14,b15,b16,b17,b18,b19,rfl⟩:=yZ y h.2.2.1
 unfold qz sV
 simp only
 generalize (⟨nme.toArray⟩:ByteArray)=P4
 show _=_
 kernel_rfl
theorem bd119 (N:ByteArray) (x y:List Int) (hx:x.length=20) (hy:y.length=20) (w:World):(Instr.build 119 #[(0,.string N),(1,.agg (row .u8 x).toArray),(2,.agg (row .u8 y).toArray)]).run Tryz.prog w=.ok (.agg (Value.string N :: (row .u8 x++row .u8 y)).toArray) w:=by
 obtain⟨a0,a1,a2,a3,a4,a5,a6,a7,a8,a9,a10,a11,a12,a13,a14,a15,a16,a17,a18,a19,rfl⟩:=yZ x hx
 obtain⟨b0,b1,b2,b3,b4,b5,b6,b7,b8,b9,b10,b11,b12,b13,b14,b15,b16,b17,b18,b19,rfl⟩:=yZ y hy
 kernel_rfl
theorem mid_heap {K:Nat} {t:TypeId} (post:List Value):∀ (new old pre:List Value) (w:World),w.heap[K]? = some (.cells (pre++(old++post)).toArray t (0,0))->new.length=old.length->(w.setCells K pre.length new).heap[K]? = some (.cells (pre++(new++post)).toArray t (0,0))
 | [],[],pre,w,h,_=>h
 | [],_ :: _,pre,w,h,hl=>by simp at hl
 | _ :: _,[],pre,w,h,hl=>by simp at hl
 | v :: new,o :: old,pre,w,h,hl=>by
  have h1:(w.setCell ⟨K,pre.length,none⟩ v).heap[K]? = some (.cells ((pre++[v])++(old++post)).toArray t (0,0)):=by
   rw[qy h]
   congr 2
   simp
  have:=mid_heap post new old (pre++[v]) _ h1 (by simpa using hl)
  rw[List.length_append,List.length_singleton] at this
  show ((w.setCell ⟨K,pre.length,none⟩ v).setCells K (pre.length+1) new).heap[K]? = _
  rw[this]
  simp
def chM (rs:List Rx) (rot:Bool) (m:Mv1):Mv1:=if rot then m else ⟨m.name,oI (rdD rs m.name),m.new⟩
theorem chM_ok {rs:List Rx} (h:∀ x ∈ rs,Z9 x) (rot:Bool) {m:Mv1} (hm:xw m):xw (chM rs rot m):=by
 cases rot with
 | true=>exact hm
 | false=>exact⟨trivial,rdD_w h m.name,hm.2.2⟩
theorem rdD_err {rs:List Rx} {x:Str} {k:Int} (h:rdD rs x=.error k):k ≠ 0:=by
 unfold rdD rdF at h
 split at h
 ·split at h
  ·cases h;decide
  ·split at h
   ·cases h;decide
   ·cases h
 ·cases h;decide
def Post19 (rs:List Rx) (s:Ls) (w:World) (e:Ending) (w':World):Prop := ∃ va vc vb vd,e=.returned (.tuple #[.slice va s.ms.length vc,.slice vb s.ms.length vd])/\Px qz 41 dMv w' va vc (s.ms.map (chM rs s.rot))/\Px qz 41 dMv w' vb vd (s.ms.map (chM rs s.rot))/\Below w.heap.size w w'/\∀ p:Addr,vb=some p->w.heap.size<=p.block/\p.block<w'.heap.size
structure Q8r (X K Q:Nat) (Y:ByteArray) (W:World):Prop where
 c0:W.cell? ⟨X,2,none⟩=some (.pointer (some ⟨Q,0,none⟩))
 c1:W.cell? ⟨K,0,none⟩=some (.string Y)
theorem changes_any {G Q:Nat} {v1 v2:Value} {rs:List Rx} {ls:List Ex} (X:Nat) (s:Ls) (w:World) (hX:w.cell? ⟨X,2,none⟩=some (.pointer (some ⟨Q,0,none⟩))) (hD:Dq G w Q v1 v2 rs ls) (hP:Px qz 41 dMv w s.a s.c s.ms) (hok:∀ m ∈ s.ms,xw m) (hn:s.ms.length<=20) :
  Calls Tryz.prog 19 #[.pointer (some ⟨X,0,none⟩),.agg (uX s).toArray] w (Post19 rs s w):=by
 obtain⟨r,HR⟩:=nm_ w.heap.size
 obtain⟨N,HN⟩:=nm_ s.ms.length
 have hN9:N<=20:=by rw[<-HN.out];exact hn
 obtain⟨TA,HTA⟩:=nm_ ((uX s).toArray)
 obtain⟨W1,HW1⟩:=nm_ (w.alloc (.cells TA 41))
 have hb1:Below r w W1:=by rw[<-HW1.out,<-HR.out];exact(Below.refl _ w).alloc (Nat.le_refl _) _
 have hs1:W1.heap.size=r+1:=by rw[<-HW1.out,<-HR.out];simp
 have hr0:W1.heap[r]? = some (.cells TA 41):=by rw[<-HW1.out,<-HR.out];exact heap_alloc_new _ _
 obtain⟨rot,hrot⟩:∃ b,s.rot=b:=⟨_,rfl⟩
 obtain⟨sa,hsa⟩:∃ b,s.a=b:=⟨_,rfl⟩
 obtain⟨sc,hsc⟩:∃ b,s.c=b:=⟨_,rfl⟩
 rw[hsa,hsc] at hP
 have HST:Hid (∀ W,Below (r+1) W1 W->Below r w W/\Dq G W Q v1 v2 rs ls/\Px qz 41 dMv W sa sc s.ms/\W.cell? ⟨X,2,none⟩=some (.pointer (some ⟨Q,0,none⟩))/\W.cell? ⟨r,1,none⟩=some (.slice sa N sc)/\W.cell? ⟨r,2,none⟩=some (.bool rot)):=fun W hW=>by
  have hb:Below r w W:=hb1.trans (hW.mono (by omega))
  have hb':Below w.heap.size w W:=by rw[HR.out];exact hb
  have hk:=(hW.block r (by omega)).trans hr0
  refine⟨hb,hD.below hb',hP.below hb',(hb'.cell (p:=⟨X,2,none⟩) (Nm.cell_lt hX)).trans hX,?_,?_⟩
  ·rw[cell_of_row _ _ 1 _ _ _ hk,<-HTA.out,<-HN.out,<-hsa,<-hsc];rfl
  ·rw[cell_of_row _ _ 2 _ _ _ hk,<-HTA.out,<-hrot];rfl
 have HOK:=hid hok
 have HRO:=hid hD.ok1
 obtain⟨ys,HYS⟩:=nm_ (s.ms.map (chM rs rot))
 have HYN:Hid (ys.length=N):=hid (by rw[<-HYS.out,List.length_map,HN.out])
 have HYO:Hid (∀ y ∈ ys,(qz y).length=41):=fun y hy=>by
  rw[<-HYS.out] at hy
  obtain⟨m,hm,rfl⟩:=List.mem_map.1 hy
  exact uW (chM_ok HRO.out rot (HOK.out m hm))
 have HB0:Hid (Bx qz 41 117 W1 W1 (r+1) (.slice none 0 0) (ys.take 0)):=hid (uz 117 W1 (r+1) (by omega))
 have HB1:Hid (Bx qz 41 119 W1 W1 (r+1) (.slice none 0 0) (ys.take 0)):=hid (uz 119 W1 (r+1) (by omega))
 have HFIN:Hid (∀ va vc vb vd W,Px qz 41 dMv W va vc ys->Px qz 41 dMv W vb vd ys->Below r w W->(∀ p:Addr,vb=some p->r+1<=p.block/\p.block<W.heap.size)->Post19 rs s w (.returned (.tuple #[.slice va N vc,.slice vb N vd])) W):=fun va vc vb vd W h1 h2 h3 h4=>⟨va,vc,vb,vd,by rw[HN.out],by rw[hrot,HYS.out];exact h1,by rw[hrot,HYS.out];exact h2,by rw[HR.out];exact h3,fun p hp=>by have:=h4 p hp;have:=HR.out;omega⟩
 rw[HTA.out]
 clear hD hP hok hb1 hr0 hX hn
 go_enter Tryz.func19,Tryz.ntmps19
 go_wp2
 rw[HW1.out,HR.out]
 go_loopg [6,7,8] N (fun q xv yv iv wr=>∃ (i:Nat) (u u':Value),iv=.int .i64 i/\u=xv/\u'=yv/\q=N-i/\i<=N/\Hid (Bx qz 41 117 W1 wr (r+1) u (ys.take i))/\Hid (Bx qz 41 119 W1 wr (r+1) u' (ys.take i)))
 case atStart=>exact⟨0,_,_,rfl,rfl,rfl,rfl,Nat.zero_le _,HB0,HB1⟩
 case round =>
  obtain⟨i,u,u',rfl,hu,hu',hq,hin,HBA,HBB⟩:=hrel
  subst hu
  subst hu'
  obtain⟨ua,uc,hus⟩:=zZ HBA.out.own
  obtain⟨ub,ud,hut⟩:=zZ HBB.out.own
  have htl:(ys.take i).length=i:=by rw[List.length_take,HYN.out];omega
  rw[htl] at hus hut
  subst hus
  subst hut
  clear htl
  have hbr:=HBA.out.below
  obtain⟨_,_,p1,_,hc1,_⟩:=HST.out wr hbr
  by_cases hlt:i<N
  ·have hlti:(i:Int)<(N:Int):=by omega
   obtain⟨b,off,hae,_,_⟩:=p1.at_ (by rw[HN.out];omega)
   subst hae
   obtain⟨m,hm⟩:∃ m,s.ms.getD i dMv=m:=⟨_,rfl⟩
   have hmo:xw m:=by rw[<-hm];exact HOK.out _ (zK s.ms i dMv (by rw[HN.out];exact hlt))
   obtain⟨EL,hEL⟩:∃ EL,qz m=EL:=⟨_,rfl⟩
   have hE41:EL.length=41:=by rw[<-hEL];exact uW hmo
   have HIE:Hid ((Tryz.prog.info? 117).map (·.size)=some EL.length):=hid (by rw[hE41];kernel_rfl)
   have HIA:Hid ((Tryz.prog.info? 117).map (·.size)=some EL.toArray.size):=hid (by rw[List.size_toArray,hE41];kernel_rfl)
   have HRG:Hid (wr.rangeAt b (off+i*41) EL):=hid (by
    obtain⟨_,_,e1,_,e3⟩:=p1.at_ (by rw[HN.out];omega)
    cases e1
    rw[<-hEL,<-hm]
    exact e3 i (by rw[HN.out];exact hlt))
   have HONE:Hid (EL.toArray.all (·.oneCell')=true):=hid (by rw[<-hEL];exact all_oneCell_toArray (yY _))
   have HZS:Hid ((41:Nat)=EL.toArray.size):=hid (by rw[List.size_toArray,hE41])
   obtain⟨V,HV⟩:=nm_ (wr.alloc (.cells EL.toArray 117))
   obtain⟨K,HK⟩:=nm_ wr.heap.size
   have hKr:r+1<=K:=by have:=HBA.out.le;have:=HK.out;omega
   have hbV:Below K wr V:=by rw[<-HV.out,<-HK.out];exact(Below.refl _ wr).alloc (Nat.le_refl _) _
   have hsV:V.heap.size=K+1:=by rw[<-HV.out,<-HK.out];simp
   have hkV:V.heap[K]? = some (.cells EL.toArray 117):=by rw[<-HV.out,<-HK.out];exact heap_alloc_new _ _
   have HVW:Hid (∀ W,Below K wr W->Below (r+1) W1 W):=fun W hW=>hbr.trans (hW.mono hKr)
   obtain⟨P,hPm⟩:∃ P,chM rs rot m=P:=⟨_,rfl⟩
   have hPo:xw P:=by rw[<-hPm];exact chM_ok HRO.out rot hmo
   have HYI:Hid (ys.take (i+1)=ys.take i++[P]):=hid (by
    rw[qj dMv ys i (by rw[HYN.out];exact hlt),<-hPm,<-hm,<-HYS.out]
    have hi':i<s.ms.length:=by rw[HN.out];exact hlt
    simp[List.getD_eq_getElem?_getD,List.getElem?_eq_getElem hi'])
   obtain⟨EP,hEP⟩:∃ EL,qz P=EL:=⟨_,rfl⟩
   have hEP41:EP.length=41:=by rw[<-hEP];exact uW hPo
   have HIP:Hid ((Tryz.prog.info? 117).map (·.size)=some EP.toArray.size):=hid (by rw[List.size_toArray,hEP41];kernel_rfl)
   obtain⟨y,hy⟩:∃ y,m.name=y:=⟨_,rfl⟩
   have hPn:P.name=y:=by rw[<-hPm,<-hy];cases rot <;> rfl
   have hPw:P.new=m.new:=by rw[<-hPm];cases rot <;> rfl
   obtain⟨Y,HY⟩:=nm_ (⟨y.toArray⟩:ByteArray)
   obtain⟨O,hO⟩:∃ O,row .u8 P.old=O:=⟨_,rfl⟩
   obtain⟨Nw,hNw⟩:∃ O,row .u8 P.new=O:=⟨_,rfl⟩
   have hO20:O.length=20:=by rw[<-hO,zw];exact hPo.2.1.1
   have hN20:Nw.length=20:=by rw[<-hNw,zw];exact hPo.2.2.1
   have HIO:Hid ((Tryz.prog.info? 89).map (·.size)=some O.length):=hid (by rw[hO20];kernel_rfl)
   have HIN:Hid ((Tryz.prog.info? 89).map (·.size)=some Nw.length):=hid (by rw[hN20];kernel_rfl)
   have hEPs:EP=[.string Y]++(O++(Nw++[])):=by rw[<-hEP,<-hO,<-hNw,<-HY.out,<-hPn];unfold qz;simp[sV]
   have HBS1:Hid (∀ W:World,(Instr.buildSlice 36 1 #[(0,.agg EP.toArray)]).run Tryz.prog W=.ok (.slice (some ⟨W.heap.size,0,none⟩) 1 1) (W.alloc (.cells EP.toArray 117))):=fun W=>by rw[<-hEP];exact run_bs36 P hPo W
   have HBS2:Hid (∀ W:World,(Instr.buildSlice 69 1 #[(0,.agg EP.toArray)]).run Tryz.prog W=.ok (.slice (some ⟨W.heap.size,0,none⟩) 1 1) (W.alloc (.cells EP.toArray 119))):=fun W=>by rw[<-hEP];exact run_bs69 P hPo W
   have HBD:Hid (∀ W:World,(Instr.build 119 #[(0,.string Y),(1,.agg O.toArray),(2,.agg Nw.toArray)]).run Tryz.prog W=.ok (.agg EP.toArray) W):=fun W=>by
    rw[<-hO,<-hNw,hEPs,<-hO,<-hNw,List.append_nil]
    exact bd119 Y P.old P.new hPo.2.1.1 hPo.2.2.1 W
   have HE1:Hid (∀ z ∈ [P],(qz z).length=41):=fun z hz=>by rw[List.mem_singleton.1 hz];exact uW hPo
   have HLL:Hid ((ys.take i).length + [P].length<=1000000000):=hid (by rw[List.length_take];simp;omega)
   have HTAIL:Hid (∀ W,Below K wr W->W.heap[K]? = some (.cells EP.toArray 117)->∃ X4,W.alloc (.cells EP.toArray 117)=X4/\Px qz 41 dMv X4 (some ⟨W.heap.size,0,none⟩) 1 [P]/\Bx qz 41 117 W1 X4 (r+1) (.slice ua i uc) (ys.take i)/\∀ v5 w5,Bx qz 41 117 W1 w5 (r+1) v5 (ys.take i++[P])->Mv X4 w5 (.slice ua i uc) v5->w5.cell? ⟨K,0,none⟩=some (.string Y)/\w5.rangeAt K 1 O/\w5.rangeAt K 21 Nw/\∃ X6,w5.alloc (.cells EP.toArray 119)=X6/\Px qz 41 dMv X6 (some ⟨w5.heap.size,0,none⟩) 1 [P]/\Bx qz 41 119 W1 X6 (r+1) (.slice ub i ud) (ys.take i)/\∀ v7 w7,Bx qz 41 119 W1 w7 (r+1) v7 (ys.take i++[P])->Mv X6 w7 (.slice ub i ud) v7->Bx qz 41 117 W1 w7 (r+1) v5 (ys.take (i+1))/\Bx qz 41 119 W1 w7 (r+1) v7 (ys.take (i+1))):=fun W hW hkW=>by
    have hbx4:Below K wr (W.alloc (.cells EP.toArray 117)):=hW.alloc (by have:=hW.size;have:=HK.out;omega) _
    have hbx4':Below wr.heap.size wr (W.alloc (.cells EP.toArray 117)):=by rw[HK.out];exact hbx4
    have hB4:=HBA.out.carry hbx4'
    have hC4:=HBB.out.carry hbx4'
    have po:∀ (w:World) (t:TypeId),Px qz 41 dMv (w.alloc (.cells EP.toArray t)) (some ⟨w.heap.size,0,none⟩) 1 [P]:=fun w t=>by
     have:=yu (enc:=qz) (d:=dMv) w P t
     rw[hEP,hEP41] at this
     exact this
    have hk4:(W.alloc (.cells EP.toArray 117)).heap[K]? = some (.cells EP.toArray 117):=by rw[heap_alloc_old _ _ (z7 hkW)];exact hkW
    refine⟨_,rfl,po W 117,hB4,fun v5 w5 hb5 hm5=>?_⟩
    have ht5:Tf 117 (W.alloc (.cells EP.toArray 117)) w5:=Tf.mv hm5 (fun k hk=>by
     obtain⟨_,⟨hv,h0⟩ | ⟨g,cap,cur,hv,hb,hh,_⟩⟩:=hB4.own
     ·rw[hv] at hk;cases hk
     ·rw[hv] at hk
      simp only[Value.ownBlock,Option.some.injEq] at hk
      subst hk
      exact⟨_,_,hh⟩)
    have hk5:w5.heap[K]? = some (.cells EP.toArray 117):=(hm5.blk K (z7 hk4) (fun e=>by
     have:=(yq HBA.out.own K e.symm).2
     have:=HK.out
     omega)).trans hk4
    have hr5:=zy hk5
    rw[hEPs] at hr5
    have ho5:=xZ (pre:=[.string Y]) (mid:=O) (post:=Nw++[]) hr5
    have hn5:=xZ (pre:=[.string Y]++O) (mid:=Nw) (post:=[]) (by simpa using hr5)
    rw[Nat.zero_add,List.length_append,List.length_singleton,hO20] at hn5
    have hC5:Bx qz 41 119 W1 w5 (r+1) (.slice ub i ud) (ys.take i):=⟨hb5.below,zV hC4.own ht5 (by decide),hb5.le⟩
    refine⟨hr5 0 _ rfl,ho5,hn5,_,rfl,po w5 119,hC5.alloc _,fun v7 w7 hb7 hm7=>?_⟩
    have ht7:Tf 119 (w5.alloc (.cells EP.toArray 119)) w7:=Tf.mv hm7 (fun k hk=>by
     obtain⟨_,⟨hv,h0⟩ | ⟨g,cap,cur,hv,hb,hh,_⟩⟩:=(hC5.alloc (.cells EP.toArray 119)).own
     ·rw[hv] at hk;cases hk
     ·rw[hv] at hk
      simp only[Value.ownBlock,Option.some.injEq] at hk
      subst hk
      exact⟨_,_,hh⟩)
    rw[HYI.out]
    exact⟨⟨hb7.below,zV (hb5.alloc (.cells EP.toArray 119)).own ht7 (by decide),hb7.le⟩,hb7⟩
   have hc2:=(HST.out V (HVW.out V hbV)).2.2.2.2.2
   cases rot with
   | true =>
    have hpe:EP=EL:=by rw[<-hEP,<-hEL,<-hPm];rfl
    obtain⟨X4,hX4,q1,q2,q3⟩:=HTAIL.out V hbV (by rw[hpe];exact hkV)
    have HKV:Hid (V.heap[K]? = some (.cells EP.toArray 117)):=hid (by rw[hpe];exact hkV)
    have HX4:=hid hX4
    have Q1:=hid q1
    have Q2:=hid q2
    have Q3:=hid q3
    clear p1 hEL hkV hbV hEP hEPs hO hNw hpe q1 q2 q3 hX4 hPm hm hPn hPw hy
    go_wp2_with (first
     | (refine wpList_load_mid rfl 117 (.tmp 22) rfl _ _ rfl EL _ HRG.out Tryz.underlying117 rfl HIE.out ?_;go_frame)
      | (refine zq rfl 117 (.tmp 9) (.tmp 23) rfl _ EL.toArray rfl rfl HIA.out HZS.out HONE.out ?_;rw[HV.out,HK.out];go_frame)
     | (refine zu rfl 117 (.tmp 9) rfl K EP.toArray 117 (0,0) _ rfl HKV.out Tryz.underlying117 rfl HIP.out ?_;go_frame)
     | (refine z8 rfl _ (zY 36 (.tmp 44) rfl (.agg EP.toArray) _ rfl (HBS1.out _)) ?_;rw[HX4.out];go_frame)
     | (at_builtin;refine zj (enc:=qz) (k:=41) (d:=dMv) rfl _ _ 36 117 und36 Y6 zMv (by decide) (by decide) yY rfl (r+1) (.slice ua i uc) (ys.take i) rfl Q2.out (some ⟨V.heap.size,0,none⟩) 1 [P] rfl Q1.out HE1.out HLL.out ?_;intro v5 w5 hb5 hg5 hm5;obtain⟨s1,s2,s3,X6,hX6,s4,s5,s6⟩:=Q3.out v5 w5 hb5 hm5;have S2:=hid s2;have S3:=hid s3;have HX6:=hid hX6;have S4:=hid s4;have S5:=hid s5;have S6:=hid s6;clear hb5 hg5 hm5 s2 s3 s4 s5 s6 hX6)
     | (refine wpList_load_mid rfl 89 (.tmp 50) rfl _ _ rfl O _ S2.out Tryz.underlying89 rfl HIO.out ?_;go_frame)
     | (refine wpList_load_mid rfl 89 (.tmp 52) rfl _ _ rfl Nw _ S3.out Tryz.underlying89 rfl HIN.out ?_;go_frame)
     | (refine z8 rfl _ (vx 119 0 1 2 (.tmp 49) (.tmp 51) (.tmp 53) rfl (.string Y) (.agg O.toArray) (.agg Nw.toArray) _ rfl rfl rfl (HBD.out _)) ?_;go_frame)
     | (refine z8 rfl _ (zY 69 (.tmp 54) rfl (.agg EP.toArray) _ rfl (HBS2.out _)) ?_;rw[HX6.out];go_frame)
     | (at_builtin;refine zj (enc:=qz) (k:=41) (d:=dMv) rfl _ _ 69 119 und69 Y7 zMv (by decide) (by decide) yY rfl (r+1) (.slice ub i ud) (ys.take i) rfl S5.out (some ⟨w5.heap.size,0,none⟩) 1 [P] rfl S4.out HE1.out HLL.out ?_;intro v7 w7 hb7 hg7 hm7;obtain⟨t1,t2⟩:=S6.out v7 w7 hb7 hm7;have T1:=hid t1;have T2:=hid t2;clear hb7 hg7 hm7 t1 t2))
    go_roundg (N-(i+1))
    case measure=>omega
    case rel=>exact⟨i+1,_,_,by go_num,rfl,rfl,rfl,by omega,T1,T2⟩
   | false =>
    have hOe:P.old=oI (rdD rs y):=by rw[<-hPm,<-hy];rfl
    have HOR:Hid (O.toArray=(row .u8 (oI (rdD rs y))).toArray):=hid (by rw[<-hO,hOe])
    have HI86:Hid ((Tryz.prog.info? 86).map (·.size)=some O.toArray.size):=hid (by rw[List.size_toArray,hO20];kernel_rfl)
    have HI89:Hid ((Tryz.prog.info? 89).map (·.size)=some O.toArray.size):=hid (by rw[List.size_toArray,hO20];kernel_rfl)
    have HOO:Hid (O.toArray.all (·.oneCell')=true):=hid (by rw[<-hO];exact all_oneCell_toArray (yQ _ _))
    have HOZ:Hid ((20:Nat)=O.toArray.size):=hid (by rw[List.size_toArray,hO20])
    obtain⟨kk,hkk⟩:∃ k,oN (rdD rs y)=k:=⟨_,rfl⟩
    have C32:Hid (∀ W,Below K wr W->Calls Tryz.prog 32 #[.pointer (some ⟨Q,0,none⟩),.string Y] W fun e W'=>e=.returned (.tuple #[.agg O.toArray,.int .i64 kk])/\Below W.heap.size W W'):=fun W hW=>by
     have:=readD_any y W (HST.out W (HVW.out W hW)).2.1
     unfold sV at this
     rw[HY.out,<-HOR.out,hkk] at this
     exact this
    have hELs:EL=[.string Y]++(row .u8 m.old++(Nw++[])):=by rw[<-hEL,<-hNw,hPw,<-HY.out,<-hy];unfold qz;simp[sV]
    have HMID:Hid (∀ (W:World) (A:List Value),A.length=20->W.heap[K]? = some (.cells ([Value.string Y]++(A++(Nw++[]))).toArray 117 (0,0))->W.there K 1 O.toArray.size/\(W.setCells K 1 O.toArray.toList).heap[K]? = some (.cells EP.toArray 117)):=fun W A hA hk=>by
     refine⟨Y2 hk 1 _ (by rw[List.size_toArray,hO20];simp[hA,hN20]),?_⟩
     rw[List.toList_toArray,hEPs]
     exact mid_heap (Nw++[]) O A [.string Y] W hk (by rw[hO20,hA])
    have HEP0:Hid (EP=[.string Y]++(O++(Nw++[]))):=hid hEPs
    have HO20:Hid (O.length=20):=hid hO20
    have HBO:Hid (∀ W:World,(∃ k,rdD rs y=.error k)->(Instr.build 89 #[]).run Tryz.prog W=.ok (.agg O.toArray) W):=fun W hk=>by
     obtain⟨k,hk⟩:=hk
     rw[HOR.out,hk]
     exact build89 W
    have HERR:Hid ((kk=0) ∨ (kk ≠ 0/\∃ k,rdD rs y=.error k)):=hid (by
     cases e:rdD rs y with
     | ok id=>rw[e] at hkk;exact .inl hkk.symm
     | error k=>rw[e] at hkk;exact .inr ⟨by rw[<-hkk];exact rdD_err e,k,rfl⟩)
    have HQ8:Hid (∀ W,Below (K+1) V W->Q8r X K Q Y W/\Below K wr W/\W.heap[K]? = some (.cells ([Value.string Y]++(row .u8 m.old++(Nw++[]))).toArray 117 (0,0))):=fun W hW=>by
     have h1:Below K wr W:=hbV.trans (hW.mono (by omega))
     have h2:W.heap[K]? = some (.cells EL.toArray 117):=(hW.block K (by omega)).trans hkV
     rw[hELs] at h2
     exact⟨⟨(HST.out W (HVW.out W h1)).2.2.2.1,by rw[cell_of_row _ _ 0 _ _ _ h2];rfl⟩,h1,h2⟩
    have HM20:Hid ((row .u8 m.old).length=20):=hid (by rw[zw];exact hmo.2.1.1)
    have HSET:Hid (∀ W A,Below K wr W->Below K wr (W.setCells K 1 A)):=fun W A hW=>zW (Nat.le_refl _) _ _ _ _ hW
    have hd0:Below (K+1) V V.drew:=zv _ _ 1
    have hS0:=(HQ8.out _ hd0).1
    have hdz:V.drew.heap.size=K+1:=hsV
    clear p1 hEL hkV hbV hEP hEPs hO hNw hPm hm hPn hPw hy hOe hELs hkk
    go_wp2_with (first
     | (refine wpList_load_mid rfl 117 (.tmp 22) rfl _ _ rfl EL _ HRG.out Tryz.underlying117 rfl HIE.out ?_;go_frame)
      | (refine zq rfl 117 (.tmp 9) (.tmp 23) rfl _ EL.toArray rfl rfl HIA.out HZS.out HONE.out ?_;rw[HV.out,HK.out];go_frame))
    refine wp_region_held_drew (S:=Q8r X K Q Y) (by kernel_rfl) hS0 (fun hHeld=>?_)
    generalize V.drew=u0 at hHeld hd0 hS0 hdz ⊢
    have HDZ:=hid hdz
    clear hdz
    iterate 6
     refine qq (v:=?_) hHeld ?_ ?_
     rotate_left
     ·rintro w' ⟨c0,c1⟩;go_simp;rfl
     try simp only[Act.put,sL]
    refine wpAnyH_ready (rs:=[6,10]) (by kernel_rfl) (by simp) ?_
    refine xj rfl (fun KK hKK=>?_) (xj rfl (fun KK hKK=>?_) AllReadyH.nil)
    ·refine qJ rfl 32 [.tmp 31,.tmp 33] #[27,9] [.pointer (some ⟨Q,0,none⟩),.string Y] _ rfl rfl (by intro w;kernel_rfl) (C32.out u0 (HQ8.out _ hd0).2.1) ?_
     rintro e u1 ⟨rfl,hb1⟩
     have hd1:Below (K+1) V u1:=hd0.trans (hb1.mono (by have:=HDZ.out;omega))
     refine⟨_,rfl,hKK.out _ _ (HQ8.out _ hd1).1 (fun hHeld=>?_)⟩
     clear hKK KK
     try simp only[Act.put,sL]
     iterate 3
      refine qq (v:=?_) hHeld ?_ ?_
      rotate_left
      ·intro w' hw';go_simp;rfl
      try simp only[Act.put,sL]
     refine wpAnyH_ready (rs:=[10]) (by kernel_rfl) (by simp) ?_
     refine xj rfl (fun KK hKK=>?_) AllReadyH.nil
     go_simp
     obtain⟨KB,hKB⟩:∃ x,u1.heap.size=x:=⟨_,rfl⟩
     have hd2:∀ A,Below (K+1) V (u1.alloc (.cells A 86)):=fun A=>hd1.alloc (by have:=hd1.size;omega) _
     refine hKK.out _ _ (HQ8.out _ (hd2 _)).1 (fun hHeld=>?_)
     clear hKK KK
     try simp only[Act.put,sL]
     refine wpAnyH_ready (rs:=[11]) (by kernel_rfl) (by simp) ?_
     refine xj rfl (fun KK hKK=>?_) AllReadyH.nil
     rw[if_pos (by rfl)]
     refine wp_store_row 86 (.tmp 10) (.tmp 35) rfl u1.heap.size O.toArray rfl rfl 86 _ (heap_alloc_new u1 _) HI86.out (by rw[<-HOZ.out];rfl) HOO.out ?_
     rw[World.setRow_alloc_new]
     have hdf:=hd2 O.toArray
     have hkb:(u1.alloc (.cells O.toArray 86)).heap[KB]? = some (.cells O.toArray 86):=by rw[<-hKB];exact heap_alloc_new _ _
     refine hKK.out _ _ (HQ8.out _ hdf).1 (fun hHeld=>?_)
     clear hKK KK
     try simp only[Act.put,sL]
     rw[hKB]
     generalize u1.alloc (.cells O.toArray 86)=Wf at hdf hkb hHeld ⊢
     refine takeY (i:=12) (v:=.int .i64 kk) hHeld ?_ ?_
     ·intro w' hw';go_simp
     try simp only[Act.put,sL]
     refine wpAnyH_done (by kernel_rfl) ?_ _
     obtain⟨_,hbf,hkf⟩:=HQ8.out Wf hdf
     obtain⟨th1,hk1⟩:=HMID.out Wf _ HM20.out hkf
     have TH1:=hid th1
     have HKB:=hid hkb
     obtain⟨Wg,hWg⟩:∃ x,Wf.setCells K 1 O.toArray.toList=x:=⟨_,rfl⟩
     rw[hWg] at hk1
     have hbg:Below K wr Wg:=by rw[<-hWg];exact HSET.out Wf _ hbf
     have HWG:=hid hWg
     clear hWg th1 hkf hkb hbf hHeld
     rcases HERR.out with hk0 | ⟨hk0,hker⟩
     ·subst hk0
      obtain⟨X4,hX4,q1,q2,q3⟩:=HTAIL.out Wg hbg hk1
      have HKV:=hid hk1
      have HX4:=hid hX4
      have Q1:=hid q1
      have Q2:=hid q2
      have Q3:=hid q3
      clear q1 q2 q3 hX4 hk1 hbg
      go_wp2_with (first
       | (refine zu rfl 86 (.tmp 10) rfl KB O.toArray 86 (0,0) _ rfl HKB.out Tryz.underlying86 rfl HI86.out ?_;go_frame)
       | (refine wpList_store_mid rfl 89 (.tmp 38) (.tmp 37) rfl K 1 O.toArray rfl rfl TH1.out HI89.out HOO.out ?_;rw[HWG.out];go_frame)
       | (refine zu rfl 117 (.tmp 9) rfl K EP.toArray 117 (0,0) _ rfl HKV.out Tryz.underlying117 rfl HIP.out ?_;go_frame)
       | (refine z8 rfl _ (zY 36 (.tmp 44) rfl (.agg EP.toArray) _ rfl (HBS1.out _)) ?_;rw[HX4.out];go_frame)
       | (at_builtin;refine zj (enc:=qz) (k:=41) (d:=dMv) rfl _ _ 36 117 und36 Y6 zMv (by decide) (by decide) yY rfl (r+1) (.slice ua i uc) (ys.take i) rfl Q2.out (some ⟨Wg.heap.size,0,none⟩) 1 [P] rfl Q1.out HE1.out HLL.out ?_;intro v5 w5 hb5 hg5 hm5;obtain⟨s1,s2,s3,X6,hX6,s4,s5,s6⟩:=Q3.out v5 w5 hb5 hm5;have S2:=hid s2;have S3:=hid s3;have HX6:=hid hX6;have S4:=hid s4;have S5:=hid s5;have S6:=hid s6;clear hb5 hg5 hm5 s2 s3 s4 s5 s6 hX6)
       | (refine wpList_load_mid rfl 89 (.tmp 50) rfl _ _ rfl O _ S2.out Tryz.underlying89 rfl HIO.out ?_;go_frame)
       | (refine wpList_load_mid rfl 89 (.tmp 52) rfl _ _ rfl Nw _ S3.out Tryz.underlying89 rfl HIN.out ?_;go_frame)
       | (refine z8 rfl _ (vx 119 0 1 2 (.tmp 49) (.tmp 51) (.tmp 53) rfl (.string Y) (.agg O.toArray) (.agg Nw.toArray) _ rfl rfl rfl (HBD.out _)) ?_;go_frame)
       | (refine z8 rfl _ (zY 69 (.tmp 54) rfl (.agg EP.toArray) _ rfl (HBS2.out _)) ?_;rw[HX6.out];go_frame)
       | (at_builtin;refine zj (enc:=qz) (k:=41) (d:=dMv) rfl _ _ 69 119 und69 Y7 zMv (by decide) (by decide) yY rfl (r+1) (.slice ub i ud) (ys.take i) rfl S5.out (some ⟨w5.heap.size,0,none⟩) 1 [P] rfl S4.out HE1.out HLL.out ?_;intro v7 w7 hb7 hg7 hm7;obtain⟨t1,t2⟩:=S6.out v7 w7 hb7 hm7;have T1:=hid t1;have T2:=hid t2;clear hb7 hg7 hm7 t1 t2))
      go_roundg (N-(i+1))
      case measure=>omega
      case rel=>exact⟨i+1,_,_,by go_num,rfl,rfl,rfl,by omega,T1,T2⟩
     ·have hkn:(kk == 0)=false:=by simpa using hk0
      rw[HEP0.out] at hk1
      obtain⟨th2,hk2⟩:=HMID.out Wg _ HO20.out hk1
      have TH2:=hid th2
      obtain⟨Wh,hWh⟩:∃ x,Wg.setCells K 1 O.toArray.toList=x:=⟨_,rfl⟩
      rw[hWh] at hk2
      have hbh:Below K wr Wh:=by rw[<-hWh];exact HSET.out Wg _ hbg
      have HWH:=hid hWh
      have HKE:=hid hker
      obtain⟨X4,hX4,q1,q2,q3⟩:=HTAIL.out Wh hbh hk2
      have HKV:=hid hk2
      have HX4:=hid hX4
      have Q1:=hid q1
      have Q2:=hid q2
      have Q3:=hid q3
      clear q1 q2 q3 hX4 hk1 hbg hk2 hbh hWh th2 hker
      go_wp2_with (first
       | (refine zu rfl 86 (.tmp 10) rfl KB O.toArray 86 (0,0) _ rfl HKB.out Tryz.underlying86 rfl HI86.out ?_;go_frame)
       | (refine wpList_store_mid rfl 89 (.tmp 38) (.tmp 37) rfl K 1 O.toArray rfl rfl TH1.out HI89.out HOO.out ?_;rw[HWG.out];go_frame)
       | (refine z8 rfl _ (yk 89 rfl (HBO.out _ HKE.out)) ?_;go_frame)
       | (refine wpList_store_mid rfl 89 (.tmp 42) (.tmp 41) rfl K 1 O.toArray rfl rfl TH2.out HI89.out HOO.out ?_;rw[HWH.out];go_frame)
       | (refine zu rfl 117 (.tmp 9) rfl K EP.toArray 117 (0,0) _ rfl HKV.out Tryz.underlying117 rfl HIP.out ?_;go_frame)
       | (refine z8 rfl _ (zY 36 (.tmp 44) rfl (.agg EP.toArray) _ rfl (HBS1.out _)) ?_;rw[HX4.out];go_frame)
       | (at_builtin;refine zj (enc:=qz) (k:=41) (d:=dMv) rfl _ _ 36 117 und36 Y6 zMv (by decide) (by decide) yY rfl (r+1) (.slice ua i uc) (ys.take i) rfl Q2.out (some ⟨Wh.heap.size,0,none⟩) 1 [P] rfl Q1.out HE1.out HLL.out ?_;intro v5 w5 hb5 hg5 hm5;obtain⟨s1,s2,s3,X6,hX6,s4,s5,s6⟩:=Q3.out v5 w5 hb5 hm5;have S2:=hid s2;have S3:=hid s3;have HX6:=hid hX6;have S4:=hid s4;have S5:=hid s5;have S6:=hid s6;clear hb5 hg5 hm5 s2 s3 s4 s5 s6 hX6)
       | (refine wpList_load_mid rfl 89 (.tmp 50) rfl _ _ rfl O _ S2.out Tryz.underlying89 rfl HIO.out ?_;go_frame)
       | (refine wpList_load_mid rfl 89 (.tmp 52) rfl _ _ rfl Nw _ S3.out Tryz.underlying89 rfl HIN.out ?_;go_frame)
       | (refine z8 rfl _ (vx 119 0 1 2 (.tmp 49) (.tmp 51) (.tmp 53) rfl (.string Y) (.agg O.toArray) (.agg Nw.toArray) _ rfl rfl rfl (HBD.out _)) ?_;go_frame)
       | (refine z8 rfl _ (zY 69 (.tmp 54) rfl (.agg EP.toArray) _ rfl (HBS2.out _)) ?_;rw[HX6.out];go_frame)
       | (at_builtin;refine zj (enc:=qz) (k:=41) (d:=dMv) rfl _ _ 69 119 und69 Y7 zMv (by decide) (by decide) yY rfl (r+1) (.slice ub i ud) (ys.take i) rfl S5.out (some ⟨w5.heap.size,0,none⟩) 1 [P] rfl S4.out HE1.out HLL.out ?_;intro v7 w7 hb7 hg7 hm7;obtain⟨t1,t2⟩:=S6.out v7 w7 hb7 hm7;have T1:=hid t1;have T2:=hid t2;clear hb7 hg7 hm7 t1 t2))
      go_roundg (N-(i+1))
      case measure=>omega
      case rel=>exact⟨i+1,_,_,by go_num,rfl,rfl,rfl,by omega,T1,T2⟩
    ·go_simp
     obtain⟨KB,hKB⟩:∃ x,u0.heap.size=x:=⟨_,rfl⟩
     obtain⟨Z0,hZ0⟩:∃ A:Array Value,#[.int .u8 0,.int .u8 0,.int .u8 0,.int .u8 0,.int .u8 0,.int .u8 0,.int .u8 0,.int .u8 0,.int .u8 0,.int .u8 0,.int .u8 0,.int .u8 0,.int .u8 0,.int .u8 0,.int .u8 0,.int .u8 0,.int .u8 0,.int .u8 0,.int .u8 0,.int .u8 0]=A:=⟨_,rfl⟩
     rw[hZ0]
     have HZ20:Hid (Z0.size=20):=hid (by rw[<-hZ0];rfl)
     have hd1:Below (K+1) V (u0.alloc (.cells Z0 86)):=hd0.alloc (by have:=HDZ.out;omega) _
     have hkz:(u0.alloc (.cells Z0 86)).heap[KB]? = some (.cells Z0 86):=by rw[<-hKB];exact heap_alloc_new _ _
     refine hKK.out _ _ (HQ8.out _ hd1).1 (fun hHeld=>?_)
     clear hKK KK hZ0
     try simp only[Act.put,sL]
     rw[hKB]
     have hKBK:K+1<=KB:=by have:=HDZ.out;omega
     generalize u0.alloc (.cells Z0 86)=u1 at hd1 hkz hHeld ⊢
     refine wpAnyH_ready (rs:=[6]) (by kernel_rfl) (by simp) ?_
     refine xj rfl (fun KK hKK=>?_) AllReadyH.nil
     refine qJ rfl 32 [.tmp 31,.tmp 33] #[27,9] [.pointer (some ⟨Q,0,none⟩),.string Y] _ rfl rfl (by intro w;kernel_rfl) (C32.out u1 (HQ8.out _ hd1).2.1) ?_
     rintro e u2 ⟨rfl,hb2⟩
     have hd2:Below (K+1) V u2:=hd1.trans (hb2.mono (by have:=hd1.size;omega))
     have hkz2:u2.heap[KB]? = some (.cells Z0 86):=(hb2.block KB (z7 hkz)).trans hkz
     refine⟨_,rfl,hKK.out _ _ (HQ8.out _ hd2).1 (fun hHeld=>?_)⟩
     clear hKK KK
     try simp only[Act.put,sL]
     iterate 3
      refine qq (v:=?_) hHeld ?_ ?_
      rotate_left
      ·intro w' hw';go_simp;rfl
      try simp only[Act.put,sL]
     refine wpAnyH_ready (rs:=[11]) (by kernel_rfl) (by simp) ?_
     refine xj rfl (fun KK hKK=>?_) AllReadyH.nil
     rw[if_pos (by rfl)]
     refine wp_store_row 86 (.tmp 10) (.tmp 35) rfl KB O.toArray rfl rfl 86 _ hkz2 HI86.out (by rw[HZ20.out];exact HOZ.out) HOO.out ?_
     have hdf:Below (K+1) V (u2.setRow KB O.toArray):=below_setRow hd2 hKBK _
     have hkb:(u2.setRow KB O.toArray).heap[KB]? = some (.cells O.toArray 86):=setRow_heap _ _ _ _ _ _ hkz2
     refine hKK.out _ _ (HQ8.out _ hdf).1 (fun hHeld=>?_)
     clear hKK KK
     try simp only[Act.put,sL]
     generalize u2.setRow KB O.toArray=Wf at hdf hkb hHeld ⊢
     refine takeY (i:=12) (v:=.int .i64 kk) hHeld ?_ ?_
     ·intro w' hw';go_simp
     try simp only[Act.put,sL]
     refine wpAnyH_done (by kernel_rfl) ?_ _
     obtain⟨_,hbf,hkf⟩:=HQ8.out Wf hdf
     obtain⟨th1,hk1⟩:=HMID.out Wf _ HM20.out hkf
     have TH1:=hid th1
     have HKB:=hid hkb
     obtain⟨Wg,hWg⟩:∃ x,Wf.setCells K 1 O.toArray.toList=x:=⟨_,rfl⟩
     rw[hWg] at hk1
     have hbg:Below K wr Wg:=by rw[<-hWg];exact HSET.out Wf _ hbf
     have HWG:=hid hWg
     clear hWg th1 hkf hkb hbf hHeld
     rcases HERR.out with hk0 | ⟨hk0,hker⟩
     ·subst hk0
      obtain⟨X4,hX4,q1,q2,q3⟩:=HTAIL.out Wg hbg hk1
      have HKV:=hid hk1
      have HX4:=hid hX4
      have Q1:=hid q1
      have Q2:=hid q2
      have Q3:=hid q3
      clear q1 q2 q3 hX4 hk1 hbg
      go_wp2_with (first
       | (refine zu rfl 86 (.tmp 10) rfl KB O.toArray 86 (0,0) _ rfl HKB.out Tryz.underlying86 rfl HI86.out ?_;go_frame)
       | (refine wpList_store_mid rfl 89 (.tmp 38) (.tmp 37) rfl K 1 O.toArray rfl rfl TH1.out HI89.out HOO.out ?_;rw[HWG.out];go_frame)
       | (refine zu rfl 117 (.tmp 9) rfl K EP.toArray 117 (0,0) _ rfl HKV.out Tryz.underlying117 rfl HIP.out ?_;go_frame)
       | (refine z8 rfl _ (zY 36 (.tmp 44) rfl (.agg EP.toArray) _ rfl (HBS1.out _)) ?_;rw[HX4.out];go_frame)
       | (at_builtin;refine zj (enc:=qz) (k:=41) (d:=dMv) rfl _ _ 36 117 und36 Y6 zMv (by decide) (by decide) yY rfl (r+1) (.slice ua i uc) (ys.take i) rfl Q2.out (some ⟨Wg.heap.size,0,none⟩) 1 [P] rfl Q1.out HE1.out HLL.out ?_;intro v5 w5 hb5 hg5 hm5;obtain⟨s1,s2,s3,X6,hX6,s4,s5,s6⟩:=Q3.out v5 w5 hb5 hm5;have S2:=hid s2;have S3:=hid s3;have HX6:=hid hX6;have S4:=hid s4;have S5:=hid s5;have S6:=hid s6;clear hb5 hg5 hm5 s2 s3 s4 s5 s6 hX6)
       | (refine wpList_load_mid rfl 89 (.tmp 50) rfl _ _ rfl O _ S2.out Tryz.underlying89 rfl HIO.out ?_;go_frame)
       | (refine wpList_load_mid rfl 89 (.tmp 52) rfl _ _ rfl Nw _ S3.out Tryz.underlying89 rfl HIN.out ?_;go_frame)
       | (refine z8 rfl _ (vx 119 0 1 2 (.tmp 49) (.tmp 51) (.tmp 53) rfl (.string Y) (.agg O.toArray) (.agg Nw.toArray) _ rfl rfl rfl (HBD.out _)) ?_;go_frame)
       | (refine z8 rfl _ (zY 69 (.tmp 54) rfl (.agg EP.toArray) _ rfl (HBS2.out _)) ?_;rw[HX6.out];go_frame)
       | (at_builtin;refine zj (enc:=qz) (k:=41) (d:=dMv) rfl _ _ 69 119 und69 Y7 zMv (by decide) (by decide) yY rfl (r+1) (.slice ub i ud) (ys.take i) rfl S5.out (some ⟨w5.heap.size,0,none⟩) 1 [P] rfl S4.out HE1.out HLL.out ?_;intro v7 w7 hb7 hg7 hm7;obtain⟨t1,t2⟩:=S6.out v7 w7 hb7 hm7;have T1:=hid t1;have T2:=hid t2;clear hb7 hg7 hm7 t1 t2))
      go_roundg (N-(i+1))
      case measure=>omega
      case rel=>exact⟨i+1,_,_,by go_num,rfl,rfl,rfl,by omega,T1,T2⟩
     ·have hkn:(kk == 0)=false:=by simpa using hk0
      rw[HEP0.out] at hk1
      obtain⟨th2,hk2⟩:=HMID.out Wg _ HO20.out hk1
      have TH2:=hid th2
      obtain⟨Wh,hWh⟩:∃ x,Wg.setCells K 1 O.toArray.toList=x:=⟨_,rfl⟩
      rw[hWh] at hk2
      have hbh:Below K wr Wh:=by rw[<-hWh];exact HSET.out Wg _ hbg
      have HWH:=hid hWh
      have HKE:=hid hker
      obtain⟨X4,hX4,q1,q2,q3⟩:=HTAIL.out Wh hbh hk2
      have HKV:=hid hk2
      have HX4:=hid hX4
      have Q1:=hid q1
      have Q2:=hid q2
      have Q3:=hid q3
      clear q1 q2 q3 hX4 hk1 hbg hk2 hbh hWh th2 hker
      go_wp2_with (first
       | (refine zu rfl 86 (.tmp 10) rfl KB O.toArray 86 (0,0) _ rfl HKB.out Tryz.underlying86 rfl HI86.out ?_;go_frame)
       | (refine wpList_store_mid rfl 89 (.tmp 38) (.tmp 37) rfl K 1 O.toArray rfl rfl TH1.out HI89.out HOO.out ?_;rw[HWG.out];go_frame)
       | (refine z8 rfl _ (yk 89 rfl (HBO.out _ HKE.out)) ?_;go_frame)
       | (refine wpList_store_mid rfl 89 (.tmp 42) (.tmp 41) rfl K 1 O.toArray rfl rfl TH2.out HI89.out HOO.out ?_;rw[HWH.out];go_frame)
       | (refine zu rfl 117 (.tmp 9) rfl K EP.toArray 117 (0,0) _ rfl HKV.out Tryz.underlying117 rfl HIP.out ?_;go_frame)
       | (refine z8 rfl _ (zY 36 (.tmp 44) rfl (.agg EP.toArray) _ rfl (HBS1.out _)) ?_;rw[HX4.out];go_frame)
       | (at_builtin;refine zj (enc:=qz) (k:=41) (d:=dMv) rfl _ _ 36 117 und36 Y6 zMv (by decide) (by decide) yY rfl (r+1) (.slice ua i uc) (ys.take i) rfl Q2.out (some ⟨Wh.heap.size,0,none⟩) 1 [P] rfl Q1.out HE1.out HLL.out ?_;intro v5 w5 hb5 hg5 hm5;obtain⟨s1,s2,s3,X6,hX6,s4,s5,s6⟩:=Q3.out v5 w5 hb5 hm5;have S2:=hid s2;have S3:=hid s3;have HX6:=hid hX6;have S4:=hid s4;have S5:=hid s5;have S6:=hid s6;clear hb5 hg5 hm5 s2 s3 s4 s5 s6 hX6)
       | (refine wpList_load_mid rfl 89 (.tmp 50) rfl _ _ rfl O _ S2.out Tryz.underlying89 rfl HIO.out ?_;go_frame)
       | (refine wpList_load_mid rfl 89 (.tmp 52) rfl _ _ rfl Nw _ S3.out Tryz.underlying89 rfl HIN.out ?_;go_frame)
       | (refine z8 rfl _ (vx 119 0 1 2 (.tmp 49) (.tmp 51) (.tmp 53) rfl (.string Y) (.agg O.toArray) (.agg Nw.toArray) _ rfl rfl rfl (HBD.out _)) ?_;go_frame)
       | (refine z8 rfl _ (zY 69 (.tmp 54) rfl (.agg EP.toArray) _ rfl (HBS2.out _)) ?_;rw[HX6.out];go_frame)
       | (at_builtin;refine zj (enc:=qz) (k:=41) (d:=dMv) rfl _ _ 69 119 und69 Y7 zMv (by decide) (by decide) yY rfl (r+1) (.slice ub i ud) (ys.take i) rfl S5.out (some ⟨w5.heap.size,0,none⟩) 1 [P] rfl S4.out HE1.out HLL.out ?_;intro v7 w7 hb7 hg7 hm7;obtain⟨t1,t2⟩:=S6.out v7 w7 hb7 hm7;have T1:=hid t1;have T2:=hid t2;clear hb7 hg7 hm7 t1 t2))
      go_roundg (N-(i+1))
      case measure=>omega
      case rel=>exact⟨i+1,_,_,by go_num,rfl,rfl,rfl,by omega,T1,T2⟩
  ·have hlti:¬ (i:Int)<(N:Int):=by omega
   have hiN:N=i:=by omega
   subst hiN
   have HF:Hid (Post19 rs s w (.returned (.tuple #[.slice ua N uc,.slice ub N ud])) wr):=hid (by
    have htk:ys.take N=ys:=List.take_of_length_le (by rw[HYN.out];exact Nat.le_refl _)
    have ha:=HBA.out
    have hb:=HBB.out
    rw[htk] at ha hb
    obtain⟨a1,c1,e1,hP1,_⟩:=ha.px (d:=dMv) HYO.out
    obtain⟨a2,c2,e2,hP2,hn2,_⟩:=hb.px (d:=dMv) HYO.out
    injection e1 with e1 _ e3
    injection e2 with e2 _ e4
    subst e1
    subst e2
    subst e3
    subst e4
    exact HFIN.out _ _ _ _ _ hP1 hP2 (HST.out wr hbr).1 hn2)
   clear p1
   go_wp2
   exact bodyPost_ret (results_tmp2 Tryz.results19 _ _ _) rfl HF.out
def rsU (rs:List Rx) (ys:List (List Str × Mv1)):List Rx:=ys.foldl (fun r y=>Rk.setL geS (enW y.1) (some (y.2.new,[])) r (decide (y.2.new=zQ))) rs
def enU (p:Per) (tx:Str) (ys:List (List Str × Mv1)):List Ex:=ys.flatMap fun y=>y.1.map fun a=>(a,j8 p tx y.2)
def okO (rs:List Rx) (x:Str) (old:List Int):Prop:=match Rk.fd rs x with
 | none=>old=zQ
 | some k=>k.1=old/\old ≠ zQ
def UdG (rs:List Rx) (ls:List Ex) (ms:List Mv1) (p:Per) (tx:Str) (k:Int) (rs':List Rx) (ls':List Ex) (ws:List (List Str)):Prop :=
 (∃ i,i<ms.length/\(∀ j,j<i->okO rs (enW (ws.getD j [])) (ms.getD j dMv).old)/\¬ okO rs (enW (ws.getD i [])) (ms.getD i dMv).old/\k=62/\rs'=rs/\ls'=ls) ∨
 ((∀ j,j<ms.length->okO rs (enW (ws.getD j [])) (ms.getD j dMv).old)/\((Rk.clD ((rsU rs (ws.zip ms)).map (·.1))/\k=63/\rs'=rs/\ls'=ls) ∨ (¬ Rk.clD ((rsU rs (ws.zip ms)).map (·.1))/\((¬ okG p tx/\k=125/\rs'=rs/\ls'=ls) ∨ (okG p tx/\k=0/\rs'=rsU rs (ws.zip ms)/\ls'=Rk.prn (rsU rs (ws.zip ms)) (ls++enU p tx (ws.zip ms)))))))
def UdP (rs:List Rx) (ls:List Ex) (ms:List Mv1) (p:Per) (tx:Str) (k:Int) (rs':List Rx) (ls':List Ex):Prop:=WaysX (wyF (Rk.fd rs) 8) (ms.map (·.name)) (fun e=>k=e/\rs'=rs/\ls'=ls) (UdG rs ls ms p tx k rs' ls')
def chY (p:Per) (tx:Str) (y:List Str × Mv1):Rk.Ch Str Kp Le:=⟨y.1.dropLast,enW y.1,if y.2.new=zQ then none else some (y.2.new,[]),j8 p tx y.2⟩
theorem pre_last {l:List Str} (h:0<l.length):l.dropLast++[enW l]=l:=by
 have hne:l ≠ []:=fun e=>by subst e;simp at h
 have:enW l=l.getLast hne:=by
  unfold enW
  rw[List.getLast_eq_getElem,List.getD_eq_getElem?_getD,List.getElem?_eq_getElem (by omega)]
  rfl
 rw[this]
 exact List.dropLast_concat_getLast hne
theorem chg_sP (p:Per) (tx:Str) (y:List Str × Mv1) (h:0<y.1.length):(chg y.1 (j8 p tx y.2)).map sP=Rk.chS (chY p tx y):=by
 have hw1:¬ wD=wR:=by decide
 have hw2:¬ wD=wL:=by decide
 have hw3:¬ wG=wR:=by decide
 have hw4:¬ wG=wL:=by decide
 have hw5:¬ wG=wD:=by decide
 unfold chg Rk.chS chY
 by_cases e:y.2.new=zQ
 ·have e':(j8 p tx y.2).new=zQ:=e
  simp only[e,e',if_true,List.map_cons,List.map_map]
  refine List.cons_eq_cons.2 ⟨?_,List.map_congr_left fun a _=>?_⟩
  ·simp only[sP,hw1,hw2,if_false,if_true];rfl
  ·simp only[Function.comp,sP,lg1,hw3,hw4,hw5,if_false]
 ·have e':¬ (j8 p tx y.2).new=zQ:=e
  simp only[e,e',if_false,List.map_cons,List.map_map]
  rw[pre_last h]
  refine List.cons_eq_cons.2 ⟨?_,List.map_congr_left fun a _=>?_⟩
  ·simp only[sP,if_true];rfl
  ·simp only[Function.comp,sP,lg1,hw3,hw4,hw5,if_false]
theorem stU_sP (p:Per) (tx:Str):∀ ys:List (List Str × Mv1),(∀ y ∈ ys,0<y.1.length)->(stU p tx ys).map sP=(ys.map (chY p tx)).flatMap Rk.chS
 | [],_=>rfl
 | y :: ys,h=>by
  have:=stU_sP p tx ys (fun z hz=>h z (List.mem_cons_of_mem _ hz))
  unfold stU at this ⊢
  rw[List.flatMap_cons,List.map_append,this,chg_sP p tx y (h y (List.mem_cons_self ..))]
  rfl
theorem stF_U (p:Per) (tx:Str) (ys:List (List Str × Mv1)) (h:∀ y ∈ ys,0<y.1.length) (m:Rk.Tb Str Kp Le):stF m (stU p tx ys)=(ys.map (chY p tx)).foldl Rk.stp m:=by
 unfold stF
 rw[stU_sP p tx ys h,Rk.tk_all]
theorem enU_eq (p:Per) (tx:Str):∀ ys:List (List Str × Mv1),(∀ y ∈ ys,0<y.1.length)->enU p tx ys=(ys.map (chY p tx)).flatMap Rk.ents
 | [],_=>rfl
 | y :: ys,h=>by
  have:=enU_eq p tx ys (fun z hz=>h z (List.mem_cons_of_mem _ hz))
  unfold enU at this ⊢
  rw[List.flatMap_cons,this,List.map_cons,List.flatMap_cons]
  congr 1
  show _=((chY p tx y).pre++[(chY p tx y).last]).map _
  rw[show (chY p tx y).pre++[(chY p tx y).last]=y.1 from pre_last (h y (List.mem_cons_self ..))]
  rfl
theorem rsU_eq (p:Per) (tx:Str):∀ (ys:List (List Str × Mv1)) (rs:List Rx),rsU rs ys=(ys.map (chY p tx)).foldl (fun r c=>Rk.setL geS c.last c.new r c.new.isNone) rs
 | [],rs=>rfl
 | y :: ys,rs=>by
  have h1:Rk.setL geS (enW y.1) (some (y.2.new,[])) rs (decide (y.2.new=zQ))=Rk.setL geS (chY p tx y).last (chY p tx y).new rs (chY p tx y).new.isNone:=by
   unfold chY
   by_cases e:y.2.new=zQ
   ·simp only[e,decide_true,if_true,Option.isNone_none,Rk.setL_done]
   ·simp only[e,decide_false,if_false,Option.isNone_some]
  have:=rsU_eq p tx ys (Rk.setL geS (enW y.1) (some (y.2.new,[])) rs (decide (y.2.new=zQ)))
  unfold rsU at this ⊢
  rw[List.foldl_cons,this,List.map_cons,List.foldl_cons,h1]
structure Wk (rs:List Rx) (ys:List (List Str × Mv1)):Prop where
 pos:∀ y ∈ ys,0<y.1.length
 nine:∀ y ∈ ys,y.1.length<=9
 nam:∀ y ∈ ys,∀ a ∈ y.1,isN a=true
 pre:∀ y ∈ ys,∀ a ∈ y.1.dropLast,(Rk.fd rs a).bind tgK ≠ none
 last:∀ y ∈ ys,(Rk.fd rs (enW y.1)).bind tgK=none
 dis:(ys.map fun y=>enW y.1).Nodup
 ok:∀ y ∈ ys,xw y.2
 few:ys.length<=20
theorem wy_nam {rs:List Rx} (h:∀ x k,Rk.fd rs x=some k->rOk (x,k)):∀ (n:Nat) (x:Str) (l:List Str),isN x=true->wyF (Rk.fd rs) n x=some l->∀ a ∈ l,isN a=true
 | n,x,l,hx,hw=>by
  by_cases h0:tgF (Rk.fd rs) x=[]
  ·rw[XX h0] at hw
   cases hw
   intro a ha
   rw[List.mem_singleton.1 ha]
   exact hx
  ·cases n with
   | zero=>rw[wyF_loop h0] at hw;cases hw
   | succ n =>
    rw[wyF_go h0] at hw
    obtain⟨l',hl,rfl⟩:=Option.map_eq_some_iff.1 hw
    have hc:isN (tgF (Rk.fd rs) x)=true:=by
     unfold tgF at h0 ⊢
     cases e:Rk.fd rs x with
     | none=>rw[e] at h0;exact absurd rfl h0
     | some q =>
      rw[e] at h0
      rcases(h x q e).2.2 with ⟨h1,_⟩ | ⟨h1,_⟩
      ·exact absurd h1 h0
      ·exact h1
    intro a ha
    rcases List.mem_cons.1 ha with rfl | ha
    ·exact hx
    ·exact wy_nam h n _ l' hc hl a ha
theorem wk_of {k:Nat} {m:Rk.Tb Str Kp Le} {rs:List Rx} {ls:List Ex} (h:Ib k m rs ls) {ms:List Mv1} {ws:List (List Str)} (hw:Wl (wyF (Rk.fd rs) 8) (ms.map (·.name)) ws) (hd:(ws.map enW).Nodup) (hok:∀ x ∈ ms,xw x) (hf:ms.length<=20):Wk rs (ws.zip ms):=by
 have hl:ws.length=ms.length:=by rw[hw.1];simp
 have key:∀ y ∈ ws.zip ms,y.2 ∈ ms/\isN y.2.name=true/\wyF (Rk.fd rs) 8 y.2.name=some y.1:=fun y hy=>by
  obtain⟨j,hj,ej⟩:=List.getElem_of_mem hy
  rw[List.length_zip] at hj
  have hjm:j<ms.length:=by omega
  have hjw:j<ws.length:=by omega
  rw[List.getElem_zip] at ej
  have:=hw.2 j (by simpa using hjm)
  rw[show (ms.map (·.name)).getD j []=ms[j].name by simp[List.getD_eq_getElem?_getD,List.getElem?_eq_getElem hjm],show ws.getD j []=ws[j] by simp[List.getD_eq_getElem?_getD,List.getElem?_eq_getElem hjw]] at this
  rw[<-ej]
  exact⟨List.getElem_mem _,this.1,this.2⟩
 have hs:∀ y ∈ ws.zip ms,0<y.1.length/\y.1.length<=9:=fun y hy=>by
  obtain⟨_,h1,h2⟩:=key y hy
  obtain⟨g1,g2,_⟩:=Y5 (fun x q hx=>by
   rcases(h.fdok hx).2.2 with ⟨e,_⟩ | ⟨e,_⟩
   ·rw[e];simp
   ·exact qZ e) 8 _ _ (qZ h1) h2
  exact⟨g1,g2⟩
 have hpl:∀ y ∈ ws.zip ms,(∀ a ∈ y.1.dropLast,(Rk.fd rs a).bind tgK ≠ none)/\(Rk.fd rs (enW y.1)).bind tgK=none:=fun y hy=>by
  obtain⟨p,z,e1,e2,e3⟩:=Rk.wy_pre tgK (Rk.fd rs) 8 _ _ (key y hy).2.2
  have hz:enW y.1=z:=by rw[e1];unfold enW;simp
  rw[hz,e1,List.dropLast_concat]
  exact⟨e2,e3⟩
 refine⟨fun y hy=>(hs y hy).1,fun y hy=>(hs y hy).2,fun y hy=>wy_nam (fun x q hx=>h.fdok hx) 8 _ _ (key y hy).2.1 (key y hy).2.2,fun y hy=>(hpl y hy).1,fun y hy=>(hpl y hy).2,?_,fun y hy=>hok _ (key y hy).1,by rw[List.length_zip];omega⟩
 have:((ws.zip ms).map fun y=>enW y.1)=ws.map enW:=by
  have e:((ws.zip ms).map Prod.fst)=ws:=List.map_fst_zip (by omega)
  conv=>rhs;rw[<-e]
  rw[List.map_map]
  rfl
 rw[this]
 exact hd
theorem prn_self {rs:List Rx} {ls:List Ex} (h:∀ e ∈ ls,Rk.fd rs e.1 ≠ none):Rk.prn rs ls=ls:=by
 unfold Rk.prn
 rw[List.filter_eq_self]
 intro e he
 have:=h e he
 cases hf:Rk.fd rs e.1 with
 | none=>exact absurd hf this
 | some k=>rfl
theorem up_R {k:Nat} {m:Rk.Tb Str Kp Le} {rs:List Rx} {ls:List Ex} (h:Ib k m rs ls) {ys:List (List Str × Mv1)} (hw:Wk rs ys) (p:Per) (tx:Str):Rk.R ⟨rsU rs ys,Rk.prn (rsU rs ys) (ls++enU p tx ys)⟩ (stF m (stU p tx ys)):=by
 rw[stF_U p tx ys hw.pos,enU_eq p tx ys hw.pos,rsU_eq p tx ys rs]
 refine Rk.R.all geS _ rs ls m (by rw[prn_self h.r.own];exact h.r) ?_ ?_ ?_
 ·intro c hc a ha
  obtain⟨y,hy,rfl⟩:=List.mem_map.1 hc
  have h1:=hw.pre y hy a ha
  refine⟨fun e=>h1 (by rw[e];rfl),fun c' hc' e=>?_⟩
  obtain⟨y',hy',rfl⟩:=List.mem_map.1 hc'
  rw[e] at h1
  exact h1 (hw.last y' hy')
 ·rw[List.pairwise_map]
  have:=hw.dis
  rw[List.Nodup,List.pairwise_map] at this
  exact this
 ·intro c hc hn e he hh
  exact h.r.own e he (by rw[hh];exact hn)
theorem mem_set2 (ge:Str->Str->Bool) (a:Str) (k:Kp):∀ (l:List Rx) (done:Bool) (x:Rx),x ∈ Rk.setL ge a (some k) l done->(x=(a,k)/\done=false) ∨ x ∈ l
 | [],done,x,hx=>by
  cases done with
  | true=>simp[Rk.setL] at hx
  | false=>simp[Rk.setL] at hx;exact .inl ⟨hx,rfl⟩
 | r :: l,done,x,hx=>by
  simp only[Rk.setL] at hx
  rcases List.mem_append.1 hx with h1 | hx
  ·split at h1
   ·rename_i hc
    simp only[Option.toList_some,List.map_cons,List.map_nil,List.mem_singleton] at h1
    cases done with
    | true=>simp at hc
    | false=>exact .inl ⟨h1,rfl⟩
   ·cases h1
  ·rcases List.mem_append.1 hx with hx | hx
   ·split at hx
    ·cases hx
    ·exact .inr (by rw[List.mem_singleton.1 hx];exact List.mem_cons_self ..)
   ·rcases mem_set2 ge a k l _ x hx with ⟨h1,h2⟩ | h
    ·cases done with
     | true=>simp at h2
     | false=>exact .inl ⟨h1,rfl⟩
    ·exact .inr (List.mem_cons_of_mem _ h)
theorem rsU_all:∀ (ys:List (List Str × Mv1)) (rs:List Rx),(rs.Pairwise fun x y=>ltS x.1 y.1)->(∀ x ∈ rs,rOk x)->(∀ y ∈ ys,0<y.1.length/\(∀ a ∈ y.1,isN a=true)/\xw y.2)->((rsU rs ys).Pairwise fun x y=>ltS x.1 y.1)/\(∀ x ∈ rsU rs ys,rOk x)/\(rsU rs ys).length<=rs.length+ys.length
 | [],rs,h1,h2,_=>⟨h1,h2,by simp[rsU]⟩
 | y :: ys,rs,h1,h2,h3=>by
  obtain⟨g0,g1,g2⟩:=h3 y (List.mem_cons_self ..)
  obtain⟨k1,k2,k3⟩:=rsU_all ys (Rk.setL geS (enW y.1) (some (y.2.new,[])) rs (decide (y.2.new=zQ))) (Rk.setL_rising ltS geS geS_iff ltS_irr ltS_tr ltS_tot _ _ rs _ h1) (fun x hx=>by
   rcases mem_set2 _ _ _ _ _ x hx with ⟨rfl,e⟩ | hx
   ·exact⟨g1 _ (uu y.1 g0),g2.2.2,.inl ⟨rfl,of_decide_eq_false e⟩⟩
   ·exact h2 x hx) (fun z hz=>h3 z (List.mem_cons_of_mem _ hz))
  refine⟨k1,k2,?_⟩
  have:=QX geS (enW y.1) (y.2.new,[]) rs (decide (y.2.new=zQ))
  unfold rsU at k3 ⊢
  rw[List.foldl_cons,List.length_cons]
  have h5:(if decide (y.2.new=zQ)=true then 0 else 1)<=1:=by split <;> omega
  omega
theorem enU_len (p:Per) (tx:Str):∀ ys:List (List Str × Mv1),(∀ y ∈ ys,y.1.length<=9)->(enU p tx ys).length<=9*ys.length
 | [],_=>by simp[enU]
 | y :: ys,h=>by
  have:=enU_len p tx ys (fun z hz=>h z (List.mem_cons_of_mem _ hz))
  have h9:=h y (List.mem_cons_self ..)
  unfold enU at this ⊢
  rw[List.flatMap_cons,List.length_append,List.length_map,List.length_cons]
  omega
theorem up_Ib {k:Nat} {m:Rk.Tb Str Kp Le} {rs:List Rx} {ls:List Ex} (h:Ib k m rs ls) {ys:List (List Str × Mv1)} (hw:Wk rs ys) {p:Per} {tx:Str} (hg:okG p tx):Ib (k+1) (stF m (stU p tx ys)) (rsU rs ys) (Rk.prn (rsU rs ys) (ls++enU p tx ys)):=by
 obtain⟨k1,k2,k3⟩:=rsU_all ys rs h.asc h.rok (fun y hy=>⟨hw.pos y hy,hw.nam y hy,hw.ok y hy⟩)
 have h20:=hw.few
 refine⟨up_R h hw p tx,k1,k2,fun e he=>?_,by have:=h.n1;omega,?_⟩
 ·have he:=(List.mem_filter.1 he).1
  rcases List.mem_append.1 he with he | he
  ·exact h.lok e he
  ·unfold enU at he
   obtain⟨y,hy,he⟩:=List.mem_flatMap.1 he
   obtain⟨a,_,rfl⟩:=List.mem_map.1 he
   exact⟨⟨(hw.ok y hy).2.1,(hw.ok y hy).2.2⟩,hg⟩
 ·have h1:(Rk.prn (rsU rs ys) (ls++enU p tx ys)).length<=(ls++enU p tx ys).length:=List.length_filter_le _ _
  have h2:=enU_len p tx ys hw.nine
  have h3:=h.n2
  rw[List.length_append] at h1
  omega
theorem ok_both {k:Nat} {m:Rk.Tb Str Kp Le} {rs:List Rx} {ls:List Ex} (h:Ib k m rs ls) {T:Ts} (hT:aT T=m) {z:Str} (hz:(Rk.fd rs z).bind tgK=none) (old:List Int):idT T z=old ↔ okO rs z old:=by
 unfold okO idT
 rcases h.at hT z with ⟨h1,h2⟩ | ⟨r,h1,h2,_⟩
 ·rw[h1,h2]
  simp only[Option.map_none,Option.getD_none]
  exact eq_comm
 ·rw[h1,h2]
  simp only[Option.map_some,Option.getD_some]
  have ht:r.tg=[]:=by
   rw[h2] at hz
   simp only[Option.bind_some,tgK] at hz
   split at hz
   ·assumption
   ·cases hz
  have hne:r.id ≠ zQ:=by
   rcases(h.fdok h2).2.2 with ⟨_,e⟩ | ⟨e,_⟩
   ·exact e
   ·rw[ht] at e;cases e
  constructor
  ·intro e;exact⟨e,by rw[<-e];exact hne⟩
  ·exact fun e=>e.1
end Go.Proofs.YtgliaiemkfopeaaGreatDoor.K
