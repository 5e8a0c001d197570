import Derived.Test.YticgindfipobiaaGreatDoorMn04
import Derived.Test.YticgindfipobiaaGreatDoorMn03
import Derived.Test.YticgindfipobiaaGreatDoorMn01
set_option linter.unusedSimpArgs false
set_option linter.unusedVariables false
set_option maxRecDepth 20000
set_option maxHeartbeats 4000000
namespace Go.Proofs.YticgindfipobiaaGreatDoor
open Go.RowKit
section
variable {P : Program} {ops : Array Oper} {o : Oper} {a : Act} {w : World} {K : Act → World → Prop} {Q : Exit → Act → World → Prop} {E : Prop}
theorem step_append (hg:o.guard=none) (s x:Operand) (t:TypeId) (sv xv v:Value) (w2:World)
  (ho:o.op=.call { callee:=.builtin .append,args:=#[s,x],argTypes:=#[t,t] }) (hs:a.eval s=sv) (hx:a.eval x=xv) (hr:(Builtin.append_ #[t,t] o.type #[sv,xv]).run P w=.ok v w2) (h:K (a.put o.dst v) w2) :
  if Region.wanted o (yielded ops a.tmps)=true then Oper.wp P o a w K Q else E:=by
 have hw:Region.wanted o (yielded ops a.tmps)=true:=by simp[Region.wanted,hg]
 rw[if_pos hw]
 unfold Oper.wp execOp
 simp only[ho,resolve,invoke,builtin,Sem.run_bind,Sem.run_pure,Result.andThen_ok,List.map_toArray,List.map_cons,List.map_nil,hs,hx,hr]
 exact h
theorem step_conv (hg:o.guard=none) (src dst:TypeId) (x:Operand) (xv v:Value) (w2:World)
  (ho:o.op=.convert src dst x) (hx:a.eval x=xv) (hr:(convert src dst xv).run P w=.ok v w2) (h:K (a.put o.dst v) w2) :
  if Region.wanted o (yielded ops a.tmps)=true then Oper.wp P o a w K Q else E:=by
 have hw:Region.wanted o (yielded ops a.tmps)=true:=by simp[Region.wanted,hg]
 rw[if_pos hw]
 unfold Oper.wp execOp
 simp only[ho,Sem.run_bind,Sem.run_pure,Result.andThen_ok,hx,hr]
 exact h
theorem step_call1 (hg:o.guard=none) (f:FuncId) (s1:Tmp) (t1:TypeId) (v1 r:Value) (R:World->Prop)
  (ho:o.op=.call { callee:=.value (.func f),args:=#[.tmp s1],argTypes:=#[t1] }) (hx1:a.eval (.tmp s1)=v1) (hent:∀ (v1:Value) (w:World),(callFunc f #[v1]).run P w=.ok (.enter f #[v1]) w)
  (hc:Calls P f #[v1] w fun e w'=>e=.returned r/\R w') (h:∀ w',R w'->K (a.put o.dst r) w') :
  if Region.wanted o (yielded ops a.tmps)=true then Oper.wp P o a w K Q else E:=by
 have hw:Region.wanted o (yielded ops a.tmps)=true:=by simp[Region.wanted,hg]
 rw[if_pos hw]
 have h1':a.tmps[s1]?.getD undef=v1:=by simpa [Act.eval] using hx1
 unfold Oper.wp
 simp[execOp,ho,resolve,invoke,go_sem]
 rw[h1',hent,Oper.upon_enter]
 refine hc.mono ?_
 rintro e w' ⟨rfl,hr⟩
 exact h w' hr
end
theorem enter34 (v:Value) (w:World):(callFunc 54 #[v]).run Tryz.prog w=.ok (.enter 54 #[v]) w:=by kernel_rfl
def j4 (k:Int) (zs:List Int):List Int:=q8 (hd k zs.length)++zs
def yj (k:Int) (n:Nat):Int:=if (kN k).toList.isEmpty=true then 20 else if 100000<n then 11 else 0
theorem fits_err (k:Int) (n:Nat) (h:yj k n ≠ 0):fitsV k n=.iface 43 (.int .i64 (yj k n)):=by
 unfold yj at h ⊢
 unfold fitsV
 by_cases h1:(kN k).toList.isEmpty=true
 ·rw[if_pos h1,if_pos h1]
 ·rw[if_neg h1] at h
  rw[if_neg h1,if_neg h1]
  by_cases h2:100000<n
  ·rw[if_pos (by omega),if_pos h2]
  ·rw[if_neg h2] at h;exact absurd rfl h
theorem fits_ok (k:Int) (n:Nat) (h:yj k n=0):fitsV k n=.nilIface/\n<=100000:=by
 unfold yj at h
 unfold fitsV
 by_cases h1:(kN k).toList.isEmpty=true
 ·rw[if_pos h1] at h;cases h
 ·rw[if_neg h1] at h
  rw[if_neg h1]
  by_cases h2:100000<n
  ·rw[if_pos h2] at h;cases h
  ·exact⟨by rw[if_neg (by omega)],by omega⟩
def PostE (k:Int) (zs:List Int) (w:World) (e:Ending) (w':World):Prop :=
 Below w.heap.size w w'/\((yj k zs.length ≠ 0/\e=.returned (.tuple #[.slice none 0 0,.iface 43 (.int .i64 (yj k zs.length))])) ∨
  (yj k zs.length=0/\∃ g cap':Nat,e=.returned (.tuple #[.slice (some ⟨g,0,none⟩) (j4 k zs).length cap',.nilIface])/\w.heap.size<=g/\g<w'.heap.size/\At w' g 0 (j4 k zs)/\(j4 k zs).length<=cap'))
set_option maxHeartbeats 2000000 in
theorem encode_any (k:Int) (a:Option Addr) (cap:Nat) (zs:List Int) (w:World) (ht:Tab w) (hl:zs.length<=300000) (hS:Sl w a cap zs) :
  Calls Tryz.prog 38 #[.agg #[.int .i64 k,.slice a zs.length cap]] w (PostE k zs w):=by
 obtain⟨n,HN⟩:=nm_ zs.length
 have HF:Hid (∀ w,Calls Tryz.prog 40 #[.agg #[.int .i64 k,.slice a n cap]] w fun e w'=>e=.returned (fitsV k n)/\w'=w.alloc (.cells #[.int .i64 k,.slice a n cap] 28)):=fun w=>fits_any k a n cap w
 by_cases he:yj k n=0
 ·obtain⟨hfv,hn⟩:=fits_ok k n he
  rw[hfv] at HF
  obtain⟨g0,HG0⟩:=nm_ w.heap.size
  obtain⟨w1,HW1⟩:=nm_ ((w.alloc (.cells #[.int .i64 k,.slice a n cap] 28)).alloc (.cells #[.int .i64 k,.slice a n cap] 28))
  have HB1:Hid (Below g0 w w1):=by rw[<-HW1.out,<-HG0.out];exact((Below.refl _ w).alloc (Nat.le_refl _) _).alloc (by simp) _
  have hg1:g0<w1.heap.size:=by rw[<-HW1.out,<-HG0.out];simp;omega
  have hc0:w1.cell? ⟨g0,0,none⟩=some (.int .i64 k):=by rw[<-HW1.out,<-HG0.out];simp
  have hc1:w1.cell? ⟨g0,1,none⟩=some (.slice a n cap):=by rw[<-HW1.out,<-HG0.out];simp
  obtain⟨S,HSS⟩:=nn_ (⟨(hd k n).toArray⟩:ByteArray)
  obtain⟨m,HM⟩:=nm_ ((hd k n).length)
  have hm14:m<=14:=by
   have:=h0_len k n (by omega)
   rw[<-HM.out,hd,List.length_append,List.length_singleton]
   omega
  have HH:Hid (∀ W,Below w1.heap.size w1 W->Calls Tryz.prog 54 #[.agg #[.int .i64 k,.slice a n cap]] W fun e w'=>e=.returned (.string S)/\Below w1.heap.size w1 w'):=fun W hW=>by
   rw[HSS.out]
   refine(header_any k a n cap (by omega) W (ht.below (Below.trans (by rw[HG0.out];exact HB1.out) (hW.mono (by rw[HG0.out];omega))))).mono ?_
   rintro e w' ⟨rfl,hb⟩
   exact⟨rfl,hW.trans (hb.mono hW.size)⟩
  have HCA:Hid (∀ w2,Below w1.heap.size w1 w2->∃ (c3:Nat) (w3:World) (g' cap':Nat) (w4:World),(convert 9 26 (.string S)).run Tryz.prog w2=.ok (.slice (some ⟨w2.heap.size,0,none⟩) m c3) w3/\
    (Builtin.append_ #[26,26] 26 #[.slice (some ⟨w2.heap.size,0,none⟩) m c3,.slice a n cap]).run Tryz.prog w3=.ok (.slice (some ⟨g',0,none⟩) (m+n:Nat) cap') w4/\w3.cell? ⟨g0,1,none⟩=some (.slice a n cap)/\
    Hid (Below g0 w w4/\g0<=g'/\g'<w4.heap.size/\At w4 g' 0 (j4 k zs)/\m+n<=cap')):=fun w2 h2=>by
   obtain⟨c3,w3,hr3,hm3,hb3,hs3⟩:=V2 (hd k n) w2
   rw[HM.out,<-HSS.out] at hr3
   have hb23:Below g0 w w2:=HB1.out.trans (h2.mono (by omega))
   have h2s:=h2.size
   have hb03:Below g0 w w3:=hb23.trans (hb3.mono (by omega))
   obtain⟨g',cap',w4,hr4,hat,hcap,hlt,hg,hgr⟩:=app_mk w3 w2.heap.size c3 (q8 (hd k n)) zs a cap hm3 (hS.below (by rw[HG0.out];exact hb03)) (by rw[zK,HM.out];omega)
   rw[zK,HM.out,HN.out] at hr4
   refine⟨c3,w3,g',cap',w4,hr3,hr4,(hb3.cell (p:=⟨g0,1,none⟩) (show g0<w2.heap.size by omega)).trans ((h2.cell (p:=⟨g0,1,none⟩) hg1).trans hc1),hb03.grown hgr (by omega) (fun q hq=>by cases hq;omega),by omega,hlt,?_,?_⟩
   ·unfold j4;rw[HN.out];exact hat
   ·rw[zK,HM.out,HN.out] at hcap;exact hcap
  rw[HN.out]
  go_enter Tryz.func38,Tryz.ntmps38
  go_wp2_with (go_at_call 40;refine(HF.out _).mono ?_;rintro ev w' ⟨rfl,rfl⟩)
  rw[HW1.out,HG0.out]
  clear ht hS
  go_region_law (first
   | (refine step_call1 (by rfl) 54 10 28 (.agg #[.int .i64 k,.slice a n cap]) (.string S) (fun w'=>Below w1.heap.size w1 w') (by rfl) (by rfl) enter34 (HH.out _ ⟨rfl,rfl,rfl,Nat.le_refl _,fun _ _=>rfl⟩) ?_;intro w2 hb2;have hc2:w2.cell? ⟨g0,1,none⟩=some (.slice a n cap):=(hb2.cell (p:=⟨g0,1,none⟩) hg1).trans hc1;obtain⟨c3,w3,g',cap',w4,hr3,hr4,hc3,HE⟩:=HCA.out w2 hb2;clear hb2)
   | (refine step_conv (by rfl) 9 26 _ _ _ _ (by rfl) (by rfl) hr3 ?_)
   | (refine step_append (by rfl) _ _ 26 _ _ _ _ (by rfl) (by rfl) (by rfl) hr4 ?_))
  all_goals
   go_wp2
   go_ret2
   obtain⟨e1,e2,e3,e4,e5⟩:=HE.out
   have hlen:(j4 k zs).length=m+n:=by unfold j4;rw[List.length_append,zK,HN.out,HM.out]
   refine⟨by rw[HG0.out];exact e1,.inr ⟨by rw[HN.out];exact he,g',cap',?_,by rw[HG0.out];exact e2,e3,e4,by omega⟩⟩
   rw[hlen]
   rfl
 ·have hfv:=fits_err k n he
  rw[hfv] at HF
  rw[HN.out]
  obtain⟨er,HER⟩:=nn_ (yj k n)
  rw[<-HER.out] at HF
  have HB1:Hid (Below w.heap.size w ((w.alloc (.cells #[.int .i64 k,.slice a n cap] 28)).alloc (.cells #[.int .i64 k,.slice a n cap] 28))):=((Below.refl _ w).alloc (Nat.le_refl _) _).alloc (by simp) _
  go_enter Tryz.func38,Tryz.ntmps38
  go_wp2_with (go_at_call 40;refine(HF.out _).mono ?_;rintro ev w' ⟨rfl,rfl⟩)
  go_ret2
  refine⟨HB1.out,.inl ⟨by rw[HN.out];exact he,?_⟩⟩
  rw[HN.out,<-HER.out]
  rfl
def kO (s:ByteArray) (k:Nat):Prop:=(1<=k/\k<=4/\((kN k).toList == s.toList)=true) ∨ (k=0/\∀ i:Nat,1<=i->i<=4->((kN i).toList == s.toList)=false)
theorem kindOf_any (s:ByteArray) (w:World):Calls Tryz.prog 128 #[.string s] w fun e w'=>(∃ k:Nat,e=.returned (.int .i64 k)/\kO s k)/\w'=w:=by
 go_enter Tryz.func128,Tryz.ntmps128
 go_wp2_with fail
 go_loopg [3] 4 (fun g v wr=>∃ j:Nat,1<=j/\j<=5/\v=.int .i64 j/\g=5-j/\wr=w/\Hid (∀ i:Nat,1<=i->i<j->((kN i).toList == s.toList)=false))
 case atStart=>exact⟨1,by omega,by omega,rfl,rfl,rfl,fun i h1 h2=>by omega⟩
 case round =>
  obtain⟨j,h1,h5,rfl,hk,rfl,HN⟩:=hrel
  by_cases h4:j<=4
  ·have h4I:(j:Int)<=4:=by omega
   cases he:((kN j).toList == s.toList) with
   | true =>
    go_wp2_with (go_at_call 58;refine(vv _ _).mono ?_;rintro ev w1 ⟨rfl,rfl⟩)
    go_ret
    exact⟨⟨j,rfl,.inl ⟨h1,h4,he⟩⟩,rfl⟩
   | false =>
    go_wp2_with (go_at_call 58;refine(vv _ _).mono ?_;rintro ev w1 ⟨rfl,rfl⟩)
    go_roundg (5-(j+1))
    case measure=>omega
    case rel=>exact⟨j+1,by omega,by omega,by go_num,rfl,rfl,fun i g1 g2=>by
     by_cases hij:i=j
     ·subst hij;exact he
     ·exact HN.out i g1 (by omega)⟩
  ·have h4I:¬ (j:Int)<=4:=by omega
   go_wp2
   go_ret
   exact⟨⟨0,rfl,.inr ⟨rfl,fun i g1 g2=>HN.out i g1 (by omega)⟩⟩,rfl⟩
theorem V3 (l:List Int) (h:IsB l):q8 (Lib.bytesOf l)=l:=by
 unfold q8 Lib.bytesOf
 rw[List.map_map]
 conv=>rhs;rw[<-List.map_id l]
 apply List.map_congr_left
 intro x hx
 have:=h x hx
 simp only[Function.comp,id,UInt8.toNat_ofNat']
 omega
theorem xQ (l:List UInt8):Lib.bytesOf (q8 l)=l:=by
 unfold q8 Lib.bytesOf
 rw[List.map_map]
 conv=>rhs;rw[<-List.map_id l]
 apply List.map_congr_left
 intro x hx
 simp
theorem Sl.bytesIn {w:World} {a:Option Addr} {cap:Nat} {l:List Int} (h:Sl w a cap l):Lib.BytesIn w a l.length l:=fun h0=>by
 obtain⟨b,off,e1,_,e3⟩:=h.at_ h0
 exact⟨b,off,e1,e3⟩
theorem Sl.take {w:World} {a:Option Addr} {cap:Nat} {l:List Int} (h:Sl w a cap l) (i:Nat):Sl w a cap (l.take i) :=
 ⟨by have:=h.capl;rw[List.length_take];omega,fun h0=>by
  rw[List.length_take] at h0
  obtain⟨b,off,e1,e2,e3⟩:=h.at_ (by omega)
  refine⟨b,off,e1,e2,fun j hj=>?_⟩
  rw[List.length_take] at hj
  rw[e3 j (by omega)]
  simp[List.getD_eq_getElem?_getD,List.getElem?_take,show j<i by omega],h.nil⟩
theorem conv_str {w:World} {a:Option Addr} {cap:Nat} {l:List Int} (h:Sl w a cap l):(convert 26 9 (.slice a l.length cap)).run Tryz.prog w=.ok (.string ⟨(Lib.bytesOf l).toArray⟩) w:=by
 by_cases h0:0<l.length
 ·obtain⟨b,off,rfl,_,e3⟩:=h.at_ h0
  have:=run_convert_bytes_arg (P:=Tryz.prog) w 26 5 Tryz.underlying26 Tryz.underlying5 b off l.length cap l rfl e3 9 Tryz.underlying9
  rw[this]
  congr 2
 ·have hl:l=[]:=List.length_eq_zero_iff.1 (by omega)
  subst hl
  rw[List.length_nil,run_convert_bytes_string (P:=Tryz.prog) w 26 9 5 a 0 cap Tryz.underlying26 Tryz.underlying5 Tryz.underlying9]
  cases a with
  | none=>simp[Conv.bytesToString,Lib.bytesOf];rfl
  | some ad=>simp[Conv.bytesToString,loadCells,loadCellsFrom,Lib.bytesOf];rfl
def Mx (w:World):Prop := ∃ m:Int,w.cell? ⟨1,0,none⟩=some (.int .i64 m)
theorem Mx.below {w w':World} (h:Mx w) (hb:Below w.heap.size w w'):Mx w':=by
 obtain⟨m,hm⟩:=h
 refine⟨m,(hb.cell (p:=⟨1,0,none⟩) ?_).trans hm⟩
 rcases Nat.lt_or_ge 1 w.heap.size with h' | h'
 ·exact h'
 ·simp[World.cell?,Array.getElem?_eq_none h'] at hm
theorem Z9 (s sep:List UInt8) (w:World) (hs:s.length<=1000000) (hm:Mx w) :
  Calls Tryz.prog 111 #[.string ⟨s.toArray⟩,.string ⟨sep.toArray⟩] w fun e w'=>e=.returned (.tuple #[.string ⟨(Lib.cut s sep).1.toArray⟩,.string ⟨(Lib.cut s sep).2.1.toArray⟩,.bool (Lib.cut s sep).2.2])/\∃ q,w'=w.drewN q:=by
 obtain⟨m,hm⟩:=hm
 exact Any.strings_Cut Tryz.lays145 ⟨s.toArray⟩ ⟨sep.toArray⟩ m w (by simp[ByteArray.size];omega) hm
theorem Mk.sl {w:World} {g cap:Nat} {xs:List Int} (h:Mk w g cap xs):Sl w (some ⟨g,0,none⟩) cap xs:=⟨h.capl,fun _=>⟨g,0,rfl,h.lt,h.at_⟩,fun e=>by cases e⟩
end Go.Proofs.YticgindfipobiaaGreatDoor
