import Derived.Test.YtgliaiemkfopeaaGreatDoorMn15
import Derived.Lib.AppendStr
import Derived.Laws.BitsAllLaws
import Derived.ArgAppend
import Derived.Lib.SlBytesConst
import Derived.Laws.IdiomStrings
import Derived.Laws.BytesArg
set_option linter.unusedSimpArgs false
set_option linter.unusedVariables false
set_option maxRecDepth 20000
set_option maxHeartbeats 4000000
namespace Go.Proofs.YtgliaiemkfopeaaGreatDoor.K
open Go.RowKit
theorem Tryz.results106:Tryz.f106.results=#[.tmp 2]:=by kernel_rfl
set_option maxHeartbeats 1000000 in
theorem canBe_ok (S:Nat->Prop) (t n:Nat) (T:Ts) (w:World) (h:Tt S w t n T) (ha:∀ x r,T x=some r->∀ b ∈ x,b<128) (hk:∀ x r,T x=some r->r.tg=[]->r.id ≠ zQ) (hc:¬ clA (dT T)) :
  Calls Tryz.prog 106 #[.map (some t)] w fun e w'=>e=.returned (.bool true)/\Below w.heap.size w w':=by
 obtain⟨G,HG⟩:=nm_ w.heap.size
 obtain⟨w2,c0,hrg,hT2,hg2,hs2⟩:=h.tm.range xu
 rw[HG.out] at hrg hT2
 have HB2:Hid (Below G w w2):=hid (by rw[<-HG.out];exact Tb hg2)
 have HT2:=hid hT2
 have H:=hid h
 have HA:=hid ha
 have HK:=hid hk
 have HCL:=hid hc
 rw[HG.out]
 clear h ha hT2 hg2 hs2 hk hc
 go_enter Tryz.func106,Tryz.ntmps106
 go_wp2_with (at_range;refine z8 rfl _ (vX rfl rfl hrg) ?_;go_frame)
 go_loopg [4] c0 (fun q _ wr=>∃ (c:Nat) (L:Str->Bool),q=c/\Hid (TR (rV r0) wr t G n (vT T) L c)/\Hid (Below G w wr))
 case atStart=>exact⟨c0,_,rfl,HT2,HB2⟩
 case round =>
  obtain⟨c,L,hq,HTR,HB⟩:=hrel
  rcases HTR.out.next 0 with ⟨rfl,hall,hr⟩ | ⟨x,v,w3,c2,hL,hM,hr,hT3,hc,hg3,hs3,hen⟩
  ·have hcl:=Qq S t n T wr (H.out.below (by rw[HG.out];exact HB.out)) HA.out
   clear hall
   go_wp2_with (first
    | (at_next;refine z8 rfl _ (qY rfl rfl hr) ?_;go_frame)
    | (go_at_call 48;refine hcl.mono ?_;rintro e w7 ⟨b,rfl,k1,k2⟩;have K2:Hid (Below G w w7):=hid (HB.out.trans (k2.mono (by have:=HB.out.size;have:=HG.out;omega)));obtain rfl:b=false:=(by cases b with | false=>rfl | true=>exact absurd (k1.1 rfl) HCL.out);clear k1 k2))
   exact bodyPost_ret (results_tmp Tryz.results106 _ _ _) rfl ⟨rfl,K2.out⟩
  ·obtain⟨rr,hrr,rfl⟩:=vT_some hM
   have hro:=H.out.at_ x rr hrr
   obtain⟨A,HAA⟩:=ra rr hro.id.1
   have hb3:Below G w w3:=HB.out.grown hg3 (by have:=HTR.out.lt.1;omega) (fun q hq=>by cases hq;exact Nat.le_refl _)
   obtain⟨w4,hw4⟩:∃ w4,w3.alloc (.cells A 125)=w4:=⟨_,rfl⟩
   have hc4:w4.cell? ⟨w3.heap.size,20,none⟩=some (sV rr.tg):=by rw[<-hw4];exact(vq HAA.out hro.id.1 w3).1
   have hh4:w4.heap[w3.heap.size]? = some (.cells A 125):=by rw[<-hw4];exact heap_alloc_new _ _
   have hG3:G<w3.heap.size:=by rw[hs3];exact HTR.out.lt.1
   have ht3:t<w3.heap.size:=by have:=H.out.tm.lt;have:=HG.out;omega
   have hb34:Below w3.heap.size w3 w4:=by rw[<-hw4];exact(Below.refl _ _).alloc (Nat.le_refl _) _
   have HB4:Hid (Below G w w4):=hid (hb3.trans (hb34.mono (by omega)))
   have HT4:Hid (TR (rV r0) w4 t G n (vT T) (fun y=>L y && decide (y ≠ x)) c2):=hid (hT3.kept (hb34.block t ht3) (hb34.block G hG3))
   obtain⟨R,HI⟩:=ri rr.id hro.id.1
   have HRG:Hid (w4.rangeAt w3.heap.size 0 R.toList):=fun j v hv=>by
    have h1:w4.heap[w3.heap.size]? = some (.cells A.toList.toArray 125):=by rw[Array.toArray_toList];exact hh4
    refine zy h1 j v ?_
    have e:=HAA.out.e
    unfold rV at e
    injection e with e
    rw[<-e]
    rw[<-HI.out.e] at hv
    simp only[List.toList_toArray] at hv ⊢
    rw[List.getElem?_append_left (List.getElem?_eq_some_iff.1 hv).1]
    exact hv
   have HI89:Hid ((Tryz.prog.info? 89).map (·.size)=some R.toList.length):=hid (by simpa using HI.out.i)
   obtain⟨tg,htg⟩:∃ s,rr.tg=s:=⟨_,rfl⟩
   rw[HAA.out.e] at hr hen
   rw[htg] at hc4
   unfold sV at hr hen hc4
   by_cases h0:tg=[]
   ·have hne:=HK.out x rr hrr (by rw[htg,h0])
    have heq:∀ W:World,(Op.equalIn 10000 89 (.agg R) (.agg z89)).run Tryz.prog W=.ok false W:=fun W=>by rw[<-z89_e,<-HI.out.e,eqId 89 Qx _ _ hro.id.1 rfl W,decide_eq_false hne]
    subst h0
    unfold z89 at heq
    clear hL hM hT3 hg3 hs3 hb3 hb34 hrr hro htg hne hh4
    go_wp2_with (first
     | (at_next;refine z8 rfl _ (qY rfl rfl hr) ?_;go_frame)
     | (refine zq rfl 125 (.tmp 4) (.tmp 10) rfl _ A rfl rfl HAA.out.i HAA.out.z HAA.out.o ?_;rw[hw4];go_frame)
     | (refine BigFrame.wpList_want (by rfl) (fun KK hKK=>?_);refine wp_load_mid 89 _ rfl w3.heap.size 0 rfl R.toList _ HRG.out Tryz.underlying89 rfl HI89.out ?_;refine hKK _ _ ?_;clear hKK KK;simp only[Array.toArray_toList]))
    go_roundg c2
    case measure=>omega
    case rel=>exact⟨c2,_,rfl,HT4,HB4⟩
   ·have hne:(tg == [])=false:=by simpa using h0
    clear hL hM hT3 hg3 hs3 hb3 hb34 hrr hro htg hh4
    go_wp2_with (first
     | (at_next;refine z8 rfl _ (qY rfl rfl hr) ?_;go_frame)
     | (refine zq rfl 125 (.tmp 4) (.tmp 10) rfl _ A rfl rfl HAA.out.i HAA.out.z HAA.out.o ?_;rw[hw4];go_frame))
    go_roundg c2
    case measure=>omega
    case rel=>exact⟨c2,_,rfl,HT4,HB4⟩
def zL:Le:=⟨zQ,zQ,⟨[],[],0,0⟩,[]⟩
theorem j4:(Tryz.prog.info? 143).map (fun i=>(i.zero,i.size,i.bytes))=some (some (.agg (zX ⟨[],[],zQ,[],zL⟩).toArray),68,176):=by kernel_rfl
theorem Zu:Tryz.prog.underlying 123=some (.slice 143):=by kernel_rfl
theorem bdS4 (W N:ByteArray) (id:List Int) (hi:id.length=20) (G:ByteArray) (w:World):(Instr.build 143 #[(0,.string W),(1,.string N),(2,.agg (row .u8 id).toArray),(3,.string G)]).run Tryz.prog w=.ok (.agg (.string W :: .string N :: (row .u8 id++(.string G :: qv zL))).toArray) w:=by
 obtain⟨a0,a1,a2,a3,a4,a5,a6,a7,a8,a9,a10,a11,a12,a13,a14,a15,a16,a17,a18,a19,rfl⟩:=yZ id hi
 kernel_rfl
theorem bdS3 (W N:ByteArray) (id:List Int) (hi:id.length=20) (w:World):(Instr.build 143 #[(0,.string W),(1,.string N),(2,.agg (row .u8 id).toArray)]).run Tryz.prog w=.ok (.agg (.string W :: .string N :: (row .u8 id++(sV [] :: qv zL))).toArray) w:=by
 obtain⟨a0,a1,a2,a3,a4,a5,a6,a7,a8,a9,a10,a11,a12,a13,a14,a15,a16,a17,a18,a19,rfl⟩:=yZ id hi
 kernel_rfl
theorem bdE3 (W N:ByteArray) (e:Le) (he:uy e) (w:World):(Instr.build 143 #[(0,.string W),(1,.string N),(4,.agg (qv e).toArray)]).run Tryz.prog w=.ok (.agg (.string W :: .string N :: (row .u8 zQ++(sV [] :: qv e))).toArray) w:=by
 obtain⟨x,y,⟨pn,pm,pt,pz⟩,tx⟩:=e
 obtain⟨a0,a1,a2,a3,a4,a5,a6,a7,a8,a9,a10,a11,a12,a13,a14,a15,a16,a17,a18,a19,rfl⟩:=yZ x he.1.1
 obtain⟨b0,b1,b2,b3,b4,b5,b6,b7,b8,b9,b10,b11,b12,b13,b14,b15,b16,b17,b18,b19,rfl⟩:=yZ y he.2.1
 unfold qv
 simp only
 generalize (⟨pn.toArray⟩:ByteArray)=P1
 generalize (⟨pm.toArray⟩:ByteArray)=P2
 generalize sV tx=P3
 kernel_rfl
theorem vj (s:Sp) (h:vk s) (w:World):(Instr.buildSlice 123 1 #[(0,.agg (zX s).toArray)]).run Tryz.prog w=.ok (.slice (some ⟨w.heap.size,0,none⟩) 1 1) (w.alloc (.cells (zX s).toArray 143)):=by
 obtain⟨i,hq,hz,hs,_⟩:=qu j4
 refine run_buildSlice w 123 143 1 _ (zX s).toArray i _ Zu hq hz (by rw[hs];decide) (by rw[hs];decide) ?_
 rw[hs]
 obtain⟨wd,nm,id,tg,⟨x,y,⟨pn,pm,pt,pz⟩,tx⟩⟩:=s
 have h1:=h.id.1
 have h2:=h.e
 simp only at h1 h2
 obtain⟨c0,c1,c2,c3,c4,c5,c6,c7,c8,c9,c10,c11,c12,c13,c14,c15,c16,c17,c18,c19,rfl⟩:=yZ id h1
 obtain⟨a0,a1,a2,a3,a4,a5,a6,a7,a8,a9,a10,a11,a12,a13,a14,a15,a16,a17,a18,a19,rfl⟩:=yZ x h2.1.1
 obtain⟨b0,b1,b2,b3,b4,b5,b6,b7,b8,b9,b10,b11,b12,b13,b14,b15,b16,b17,b18,b19,rfl⟩:=yZ y h2.2.1
 unfold zX qv sV
 simp only
 generalize (⟨pn.toArray⟩:ByteArray)=P1
 generalize (⟨pm.toArray⟩:ByteArray)=P2
 generalize (⟨tx.toArray⟩:ByteArray)=P3
 generalize (⟨wd.toArray⟩:ByteArray)=P4
 generalize (⟨nm.toArray⟩:ByteArray)=P5
 generalize (⟨tg.toArray⟩:ByteArray)=P6
 show _=_
 kernel_rfl
theorem vx {P:Program} {o:Oper} {a:Act} {w w':World} (t:TypeId) (i j k:Nat) (x y z:Operand) (ho:o.op=.build t #[(i,x),(j,y),(k,z)]) (u1 u2 u3 v:Value) (h1:a.eval x=u1) (h2:a.eval y=u2) (h3:a.eval z=u3) (hr:(Instr.build t #[(i,u1),(j,u2),(k,u3)]).run P w=.ok v w'):(execOp a.eval o).run P w=.ok (.value v) w':=by
 unfold execOp
 simp[ho,h1,h2,h3,hr,Result.andThen]
theorem Xv {P:Program} {o:Oper} {a:Act} {w w':World} (t:TypeId) (i j k l:Nat) (x y z q:Operand) (ho:o.op=.build t #[(i,x),(j,y),(k,z),(l,q)]) (u1 u2 u3 u4 v:Value) (h1:a.eval x=u1) (h2:a.eval y=u2) (h3:a.eval z=u3) (h4:a.eval q=u4) (hr:(Instr.build t #[(i,u1),(j,u2),(k,u3),(l,u4)]).run P w=.ok v w'):(execOp a.eval o).run P w=.ok (.value v) w':=by
 unfold execOp
 simp[ho,h1,h2,h3,h4,hr,Result.andThen]
def fs1 (x:Str) (r:Lr):Sp:=⟨if r.tg=[] then wR else wL,x,r.id,r.tg,zL⟩
def lg1 (x:Str) (e:Le):Sp:=⟨wG,x,zQ,[],e⟩
def st1 (T:Ts) (x:Str):List Sp:=match T x with
 | none=>[]
 | some r=>fs1 x r :: r.log.map (lg1 x)
def stN (T:Ts) (ss:List Str):List Sp:=ss.flatMap (st1 T)
theorem stN_snoc (T:Ts) (ss:List Str) (i:Nat) (h:i<ss.length) (r:Lr) (hr:T (ss.getD i [])=some r):stN T (ss.take (i+1))=stN T (ss.take i)++fs1 (ss.getD i []) r :: r.log.map (lg1 (ss.getD i [])):=by
 unfold stN
 rw[qj [] ss i h,List.flatMap_append,List.flatMap_singleton]
 unfold st1
 rw[hr]
theorem stN_le (T:Ts) (ss:List Str) (i:Nat):(stN T (ss.take i)).length<=(stN T ss).length:=by
 conv=>rhs;rw[<-List.take_append_drop i ss]
 unfold stN
 rw[List.flatMap_append,List.length_append]
 omega
theorem qK:uy zL:=by unfold uy IdW zL;exact⟨⟨rfl,by unfold IsB;decide⟩,⟨rfl,by unfold IsB;decide⟩⟩
theorem Tryz.results127:Tryz.f127.results=#[.tmp 4]:=by kernel_rfl
def nm (l:Str):List Int:=l.map fun b=>(b.toNat:Int)
theorem yX (l:Str):(nm l).length=l.length:=by simp[nm]
theorem nm_app (l m:Str):nm (l++m)=nm l++nm m:=by simp[nm]
theorem nm_isB (l:Str):IsB (nm l):=fun n hn=>by
 obtain⟨b,_,rfl⟩:=List.mem_map.1 hn
 have:=b.toNat_lt
 omega
theorem str_row (l:Str):Lib.strCells ⟨l.toArray⟩=row .u8 (nm l):=by
 unfold Lib.strCells nm
 simp[row]
abbrev Bb (w0 w:World) (B:Nat) (v:Value) (l:Str):Prop:=Bx eB 1 5 w0 w B v (nm l)
theorem Bx.strM {w0 w:World} {B:Nat} {v:Value} {l:Str} (h:Bb w0 w B v l) (m:Str) (hl:l.length+m.length<=1000000000) (ty:TypeId) :
  ∃ v' w',(Builtin.append_ #[60,9] ty #[v,.string ⟨m.toArray⟩]).run Tryz.prog w=.ok v' w'/\Bb w0 w' B v' (l++m)/\Mv w w' v v':=by
 obtain⟨i5,hi,hz0,hz1,hz2⟩:=qu Yy
 have hsz:(⟨m.toArray⟩:ByteArray).size=m.length:=by simp[ByteArray.size]
 have hown:=h.own
 rw[yX] at hown
 obtain⟨v',w',hr,h1,h2,h4⟩:=Lib.run_append_own_string (P:=Tryz.prog) w B 60 9 ty 5 i5 uj Tryz.underlying9 hi hz0 hz1 hz2 v l.length _ hown ⟨m.toArray⟩ (by rw[hsz];unfold maxLen;omega) (by rw[hsz];omega) h.le
 have hat:v'.ownBlock=v.ownBlock ∨ v'.ownBlock=some w.heap.size:=by
  have hown2:=hown
  obtain⟨hl2,⟨rfl,hn0⟩ | ⟨g,cap,cur,rfl,hbg,hg,hnc,hcm,hcs,htake⟩⟩:=hown
  ·by_cases hm:(⟨m.toArray⟩:ByteArray).size=0
   ·left;rw[h4.2 ⟨rfl,hm⟩]
   ·right
    have hr2:=run_append_nil_string (P:=Tryz.prog) w 60 9 ty 5 i5 (.int .u8 0) uj Tryz.underlying9 hi hz0 ⟨m.toArray⟩ (by omega) (by rw[hsz];omega) (by rw[hz2,hsz];omega)
    rw[<-(Result.ok.inj (hr2.symm.trans hr)).1];rfl
  ·by_cases hroom:l.length+(⟨m.toArray⟩:ByteArray).size<=cap
   ·left
    have hr2:=Lib.run_append_room_string (P:=Tryz.prog) w 60 9 ty 5 i5 uj Tryz.underlying9 hi hz1 g l.length cap cur hg ⟨m.toArray⟩ hroom (by omega)
    rw[<-(Result.ok.inj (hr2.symm.trans hr)).1];rfl
   ·right
    have hr2:=Lib.run_append_grow_string (P:=Tryz.prog) w 60 9 ty 5 i5 (.int .u8 0) uj Tryz.underlying9 hi hz0 ⟨g,0,none⟩ l.length cap _ (by rw[hz1];exact hl2) (hown2.cells (g:=g) rfl) ⟨m.toArray⟩ (by omega) (by rw[hsz];omega) (by rw[hz2];exact growslice_fits (by rw[hsz];omega) (by omega))
    rw[<-(Result.ok.inj (hr2.symm.trans hr)).1];rfl
 refine⟨v',w',hr,⟨h.below.grown h2 h.le (fun k hk=>(yq h.own k hk).1),?_,Nat.le_trans h.le h2.size⟩,Mv.app ⟨rfl,rfl,rfl,Nat.le_refl _,fun _ _ _=>rfl⟩ h2 hat⟩
 rw[hsz,str_row] at h1
 rw[yX,List.length_append,nm_app,List.flatMap_append,row_eB (nm m)]
 exact h1
theorem exec_app {P:Program} {o:Oper} {a:Act} {w w':World} (t u:TypeId) (s x:Operand) (ho:o.op=.call { callee:=.builtin .append,args:=#[s,x],argTypes:=#[t,u] }) (u1 u2 v:Value) (h1:a.eval s=u1) (h2:a.eval x=u2) (hr:(Builtin.append_ #[t,u] o.type #[u1,u2]).run P w=.ok v w'):(execOp a.eval o).run P w=.ok (.value v) w':=by
 unfold execOp
 simp only[ho,resolve,invoke,builtin,Sem.run_bind,Sem.run_pure,Result.andThen_ok,List.map_toArray,List.map_cons,List.map_nil,h1,h2,hr]
def jw:List Str->Str
 | []=>[]
 | x :: r=>x++r.flatMap (32 :: ·)
theorem jw_snoc (l:List Str) (x:Str):jw (l++[x])=jw l++(if l=[] then [] else [32])++x:=by
 cases l with
 | nil=>simp[jw]
 | cons y r=>simp[jw]
theorem run_b60 (c:Int) (w:World):(Instr.buildSlice 60 1 #[(0,.int .u8 c)]).run Tryz.prog w=.ok (.slice (some ⟨w.heap.size,0,none⟩) 1 1) (w.alloc (.cells #[.int .u8 c] 5)):=by
 obtain⟨i,hq,hz,hs,_⟩:=qu Yy
 refine run_buildSlice w 60 5 1 _ #[.int .u8 c] i _ uj hq hz (by rw[hs];decide) (by rw[hs];decide) ?_
 rw[hs]
 kernel_rfl
theorem jw_le (l:List Str) (i:Nat):(jw (l.take i)).length<=(jw l).length:=by
 cases l with
 | nil=>simp[jw]
 | cons x r =>
  cases i with
  | zero=>simp[jw]
  | succ i =>
   simp only[List.take_succ_cons,jw,List.length_append]
   have:((r.take i).flatMap (32 :: ·)).length<=(r.flatMap (32 :: ·)).length:=by
    conv=>rhs;rw[<-List.take_append_drop i r,List.flatMap_append,List.length_append]
    omega
   omega
def Post127 (w0 w:World) (B:Nat) (v:Value) (l:Str) (e:Ending) (w':World):Prop := ∃ v',e=.returned v'/\Bb w0 w' B v' l/\Mv w w' v v'
set_option maxHeartbeats 1000000 in
theorem line_any (w0 w:World) (B:Nat) (v:Value) (out:Str) (aw:Option Addr) (cw:Nat) (ss:List Str) (h:Bb w0 w B v out) (hP:Px eT 1 [] w aw cw ss) (hne:∀ p:Addr,aw=some p->some p.block ≠ v.ownBlock) (hl:out.length+(jw ss).length+1<=300000000) (hs:ss.length<=10) :
  Calls Tryz.prog 127 #[v,.slice aw ss.length cw] w (Post127 w0 w B v (out++jw ss++[10])):=by
 obtain⟨N,HN⟩:=nm_ ss.length
 have hN:N<=10:=by rw[<-HN.out];exact hs
 have HP:=hid hP
 have HNE:=hid hne
 have HLL:=hid hl
 have HB0:Hid (Bb w0 w B v (out++jw (ss.take 0))):=hid (by simpa [jw] using h)
 have HM0:=hid (Mv.refl w v)
 rw[HN.out]
 clear h hP hne hl hs
 go_enter Tryz.func127,Tryz.ntmps127
 go_wp2
 go_loopg [0,5,6,9] N (fun q sv _ _ iv wr=>∃ (i:Nat) (u:Value),iv=.int .i64 i/\u=sv/\q=N-i/\i<=N/\Hid (Bb w0 wr B u (out++jw (ss.take i)))/\Hid (Mv w wr v u))
 case atStart=>exact⟨0,_,rfl,rfl,rfl,Nat.zero_le _,HB0,HM0⟩
 case round =>
  obtain⟨i,u,rfl,hu,hq,hin,HB,HM⟩:=hrel
  subst hu
  by_cases hlt:i<N
  ·have hlti:(i:Int)<(N:Int):=by omega
   obtain⟨b,off,e1,_,e3⟩:=(HP.out.mv HM.out HNE.out).at_ (by rw[HN.out];omega)
   subst e1
   have hcx:=e3 i (by rw[HN.out];exact hlt) 0 _ rfl
   obtain⟨x,hx⟩:∃ x,ss.getD i []=x:=⟨_,rfl⟩
   rw[hx] at hcx
   simp only[Nat.mul_one,Nat.add_zero] at hcx
   have htk:ss.take (i+1)=ss.take i++[x]:=by rw[qj [] ss i (by rw[HN.out];exact hlt),hx]
   have hle:=jw_le ss (i+1)
   rw[htk,jw_snoc,List.length_append,List.length_append] at hle
   by_cases h0:i=0
   ·subst h0
    obtain⟨v6,w6,hr6,hb6,hm6⟩:=HB.out.strM x (by have:=HLL.out;simp only[List.take_zero] at *;simp[jw] at *;omega) 60
    have HB6:Hid (Bb w0 w6 B v6 (out++jw (ss.take 1))):=hid (by rw[htk,jw_snoc];simpa [jw] using hb6)
    have HM6:=hid (HM.out.trans hm6)
    unfold sV at hcx
    simp only[Nat.add_zero] at hcx
    clear hb6 hm6 hx htk hle e3
    go_wp2_with (at_builtin;refine z8 rfl _ (exec_app 60 9 (.tmp 19) (.tmp 20) rfl u (.string ⟨x.toArray⟩) v6 rfl rfl hr6) ?_;go_frame)
    go_roundg (N-1)
    case measure=>omega
    case rel=>exact⟨1,_,by go_num,rfl,rfl,by omega,HB6,HM6⟩
   ·have hipos:(0:Int)<(i:Int):=by omega
    have hip:0<i:=by omega
    have hnn:¬ ss.take i=[]:=fun e=>by
     have:=congrArg List.length e
     rw[List.length_take,HN.out] at this
     simp at this
     omega
    rw[if_neg hnn] at hle
    have HBA:Hid (Bb w0 (wr.alloc (.cells #[.int .u8 32] 5)) B u (out++jw (ss.take i))):=hid (HB.out.alloc _)
    have hb32:=run_b60 32 wr
    have HP1:Hid (Px eB 1 0 (wr.alloc (.cells #[.int .u8 32] 5)) (some ⟨wr.heap.size,0,none⟩) 1 [32]):=hid (yu (enc:=eB) wr 32 5)
    have HLB:Hid ((nm (out++jw (ss.take i))).length + [(32:Int)].length<=1000000000):=hid (by
     rw[yX,List.length_append]
     have:=HLL.out
     simp only[List.length_cons,List.length_nil] at hle ⊢
     omega)
    have HMA:Hid (Mv w (wr.alloc (.cells #[.int .u8 32] 5)) v u):=hid (HM.out.trans (Mv.grow u (World.grownBy_alloc wr _ none)))
    have HST:Hid (∀ v5 w5,Bx eB 1 5 w0 w5 B v5 (nm (out++jw (ss.take i))++[32])->∃ v6 w6,(Builtin.append_ #[60,9] 60 #[v5,.string ⟨x.toArray⟩]).run Tryz.prog w5=.ok v6 w6/\Bb w0 w6 B v6 (out++jw (ss.take (i+1)))/\Mv w5 w6 v5 v6):=fun v5 w5 h5=>by
     have h5':Bb w0 w5 B v5 (out++jw (ss.take i)++[32]):=by unfold Bb;rw[nm_app];exact h5
     obtain⟨v6,w6,q1,q2,q3⟩:=h5'.strM x (by
      have:=HLL.out
      simp only[List.length_append,List.length_cons,List.length_nil] at hle ⊢
      omega) 60
     refine⟨v6,w6,q1,?_,q3⟩
     rw[htk,jw_snoc,if_neg hnn]
     simpa using q2
    unfold sV at hcx
    clear hx htk hle e3 hnn
    go_wp2_with (first
     | (refine z8 rfl _ (zY 60 (.const (.int .u8 32)) rfl (.int .u8 32) _ rfl hb32) ?_;go_frame)
     | (at_builtin;refine zj (enc:=eB) (k:=1) (d:=0) rfl (.tmp 16) (.tmp 17) 60 5 uj Yy rfl (by decide) (by decide) (fun x v hv=>by simp only[eB,List.mem_singleton] at hv;subst hv;rfl) rfl B u _ rfl HBA.out (some ⟨wr.heap.size,0,none⟩) 1 [32] rfl HP1.out (fun x _=>rfl) HLB.out ?_;intro v5 w5 hb5 hg5 hm5;obtain⟨v6,w6,hr6,hb6,hm6⟩:=HST.out v5 w5 hb5;have HB6:=hid hb6;have HM6:=hid ((HMA.out.trans hm5).trans hm6);clear hb5 hg5 hm5 hb6 hm6)
     | (at_builtin;refine z8 rfl _ (exec_app 60 9 (.tmp 19) (.tmp 20) rfl v5 (.string ⟨x.toArray⟩) v6 rfl rfl hr6) ?_;go_frame))
    go_roundg (N-(i+1))
    case measure=>omega
    case rel=>exact⟨i+1,_,by go_num,rfl,rfl,by omega,HB6,HM6⟩
  ·have hlti:¬ (i:Int)<(N:Int):=by omega
   obtain rfl:i=N:=by omega
   have hb10:=run_b60 10 wr
   have HBA:Hid (Bb w0 (wr.alloc (.cells #[.int .u8 10] 5)) B u (out++jw ss)):=hid (by
    have:=HB.out
    rw[List.take_of_length_le (by rw[HN.out];exact Nat.le_refl _)] at this
    exact this.alloc _)
   have HP1:Hid (Px eB 1 0 (wr.alloc (.cells #[.int .u8 10] 5)) (some ⟨wr.heap.size,0,none⟩) 1 [10]):=hid (yu (enc:=eB) wr 10 5)
   have HLB:Hid ((nm (out++jw ss)).length + [(10:Int)].length<=1000000000):=hid (by
    rw[yX,List.length_append]
    have:=HLL.out
    simp only[List.length_cons,List.length_nil]
    omega)
   have HMA:Hid (Mv w (wr.alloc (.cells #[.int .u8 10] 5)) v u):=hid (HM.out.trans (Mv.grow u (World.grownBy_alloc wr _ none)))
   go_wp2_with (first
    | (refine z8 rfl _ (zY 60 (.const (.int .u8 10)) rfl (.int .u8 10) _ rfl hb10) ?_;go_frame)
    | (at_builtin;refine zj (enc:=eB) (k:=1) (d:=0) rfl (.tmp 23) (.tmp 24) 60 5 uj Yy rfl (by decide) (by decide) (fun x v hv=>by simp only[eB,List.mem_singleton] at hv;subst hv;rfl) rfl B u _ rfl HBA.out (some ⟨wr.heap.size,0,none⟩) 1 [10] rfl HP1.out (fun x _=>rfl) HLB.out ?_;intro v5 w5 hb5 hg5 hm5;have HB5:=hid hb5;have HM5:=hid (HMA.out.trans hm5);clear hb5 hg5 hm5))
   refine bodyPost_ret (results_tmp Tryz.results127 _ _ _) rfl ⟨v5,rfl,?_,HM5.out⟩
   have:=HB5.out
   have e:nm (out++(jw ss++[10]))=nm (out++jw ss)++[10]:=by simp[nm]
   unfold Bb
   rw[e]
   exact this
structure Db (w:World):Prop where
 c7:w.cell? ⟨9,15,none⟩=some (.int .u8 4)
theorem Db.below {w w':World} (h:Db w) (hb:Below w.heap.size w w'):Db w':=⟨(hb.cell (p:=⟨9,15,none⟩) (cell_lt h.c7)).trans h.c7⟩
theorem pow2_16 (w:World):Calls Tryz.prog 208 #[.int .i64 16] w fun e w'=>e=.returned (.bool true)/\w'=w:=by
 go_enter Tryz.func208,Tryz.ntmps208
 go_wp2
 go_ret
 exact⟨rfl,rfl⟩
theorem tz64_16 (w:World) (h:Db w):Calls Tryz.prog 232 #[.int .u64 16] w fun e w'=>e=.returned (.int .i64 4)/\w'=w:=by
 have c:=h.c7
 have e1:bits BinOp.and IntKind.u64 16 (IntKind.u64.wrap (-16))=16:=by kernel_rfl
 have e2:IntKind.u64.wrap (16*285870213051353865) / 288230376151711744=15:=by kernel_rfl
 have e3:IntKind.u64.wrap 4573923408821661840 / 288230376151711744=15:=by kernel_rfl
 go_enter Tryz.func232,Tryz.ntmps232
 go_wp2
 go_ret
 exact⟨rfl,rfl⟩
theorem tz_16 (w:World) (h:Db w):Calls Tryz.prog 209 #[.int .u64 16] w fun e w'=>e=.returned (.int .i64 4)/\w'=w:=by
 go_enter Tryz.func209,Tryz.ntmps209
 go_wp2_with (go_at_call 232;refine(tz64_16 _ h).mono ?_;rintro ev w1 ⟨rfl,rfl⟩)
 go_ret
 exact⟨rfl,rfl⟩
def dv (d:Nat):Nat:=if d<10 then 48+d else 87+d
theorem dv_lt {d:Nat} (h:d<16):dv d<256:=by unfold dv;split <;> omega
def x16 (n:Nat):List UInt8:=if h:n<16 then [UInt8.ofNat (dv n)] else x16 (n / 16)++[UInt8.ofNat (dv (n % 16))]
theorem Z7 (n:Nat) (h:n<16):x16 n=[UInt8.ofNat (dv n)]:=by rw[x16,dif_pos h]
theorem x16_big (n:Nat) (h:¬ n<16):x16 n=x16 (n / 16)++[UInt8.ofNat (dv (n % 16))]:=by rw[x16,dif_neg h]
theorem x16_pos (n:Nat):1<=(x16 n).length:=by
 by_cases h:n<16
 ·rw[Z7 n h];simp
 ·rw[x16_big n h];simp
theorem x16_len:∀ (k n:Nat),n<16 ^ (k+1)->(x16 n).length<=k+1
 | 0,n,h=>by rw[Z7 n (by simpa using h)];simp
 | k+1,n,h=>by
  by_cases h8:n<16
  ·rw[Z7 n h8];simp
  ·rw[x16_big n h8,List.length_append]
   have:=x16_len k (n / 16) (by rw[Nat.pow_succ] at h;exact Nat.div_lt_of_lt_mul (by rw[Nat.mul_comm];exact h))
   simp;omega
def dg:ByteArray:=⟨#[48,49,50,51,52,53,54,55,56,57,97,98,99,100,101,102,103,104,105,106,107,108,109,110,111,112,113,114,115,116,117,118,119,120,121,122]⟩
theorem dig_at (d:Nat) (h:d<16) (w:World):(Instr.index 9 (.string dg) (.int .u64 d)).run Tryz.prog w=.ok (.int .u8 (dv d)) w:=by
 match d,h with
 | 0,_=>show _=_;kernel_rfl
 | 1,_=>show _=_;kernel_rfl
 | 2,_=>show _=_;kernel_rfl
 | 3,_=>show _=_;kernel_rfl
 | 4,_=>show _=_;kernel_rfl
 | 5,_=>show _=_;kernel_rfl
 | 6,_=>show _=_;kernel_rfl
 | 7,_=>show _=_;kernel_rfl
 | 8,_=>show _=_;kernel_rfl
 | 9,_=>show _=_;kernel_rfl
 | 10,_=>show _=_;kernel_rfl
 | 11,_=>show _=_;kernel_rfl
 | 12,_=>show _=_;kernel_rfl
 | 13,_=>show _=_;kernel_rfl
 | 14,_=>show _=_;kernel_rfl
 | 15,_=>show _=_;kernel_rfl
 | k+16,h=>exact absurd h (by omega)
theorem and7 (v:Nat) (h:v<4294967296):bits BinOp.and IntKind.u64 (v:Int) 15=((v % 16:Nat):Int):=by
 have:=u64_and_nat v 15 (by omega) (by omega)
 rw[nat_mask4] at this
 exact this
def zx (i:Nat) (ds:List UInt8):List Int:=List.replicate i 0++ds.map fun b=>(b.toNat:Int)
theorem zx_set (i:Nat) (ds:List UInt8) (b:UInt8):(zx (i+1) ds).set i (b.toNat:Int)=zx i (b :: ds):=by
 unfold zx
 rw[List.replicate_succ',List.append_assoc,List.set_append_right _ _ (by simp)]
 simp
theorem zx_len (i:Nat) (ds:List UInt8):(zx i ds).length=i+ds.length:=by simp[zx]
theorem zero311:Tryz.zeroCells311=(row .u8 (zx 65 [])).toArray:=by kernel_rfl
theorem str_nums (l:List UInt8):strOfNums (l.map fun b=>(b.toNat:Int))=⟨l.toArray⟩:=by
 unfold strOfNums
 rw[List.map_map,show ((fun n:Int=>UInt8.ofNat n.toNat) ∘ fun b:UInt8=>(b.toNat:Int))=id from funext fun b=>by simp,List.map_id]
structure Dx (w:World) (g i:Nat) (ds:List UInt8) (W:World):Prop where
 box:W.heap[g]? = some (.cells (row .u8 (zx i ds)).toArray 311 (0,0))
 bel:Below g w W
theorem Dx.step {w:World} {g i:Nat} {ds:List UInt8} {W:World} (h:Dx w g (i+1) ds W) (b:UInt8):Dx w g i (b :: ds) (W.setCell ⟨g,i,none⟩ (.int .u8 b.toNat)):=by
 refine⟨?_,h.bel.setCell (p:=⟨g,i,none⟩) (Nat.le_refl _) _⟩
 rw[heap_setCell_same W g i _ 311 _ h.box,jk,zx_set]
theorem fmt16 (u:Nat) (hu:u<4294967296) (w:World) (h:Db w):Calls Tryz.prog 184 #[.slice none 0 0,.int .u64 u,.int .i64 16,.bool false,.bool false] w fun e w'=>e=.returned (.tuple #[.slice none 0 0,.string ⟨(x16 u).toArray⟩])/\Below w.heap.size w w':=by
 have HT:Hid (∀ W,Below w.heap.size w W->Calls Tryz.prog 209 #[.int .u64 16] W fun e w'=>e=.returned (.int .i64 4)/\w'=W):=fun W hW=>tz_16 W (h.below hW)
 obtain⟨g,HG⟩:=nm_ w.heap.size
 have HD0:Hid (Dx w g 65 [] (w.alloc (.cells Tryz.zeroCells311 311))):=hid (by
  rw[<-HG.out,zero311]
  exact⟨heap_alloc_new w _,(Below.refl _ w).alloc (Nat.le_refl _) _⟩)
 have HU6:Hid ((x16 u).length<=8):=hid (x16_len 7 u (by simpa using hu))
 go_enter Tryz.func184,Tryz.ntmps184
 go_wp2_with (go_at_call 208;refine(pow2_16 _).mono ?_;rintro ev w1 ⟨rfl,rfl⟩)
 have HW1:Hid (Below w.heap.size w (w.alloc (.cells Tryz.zeroCells311 311))):=(Below.refl _ w).alloc (Nat.le_refl _) _
 refine(HT.out _ HW1.out).mono ?_
 rintro ev w1 ⟨rfl,hw1⟩
 subst hw1
 go_wp2_with fail
 rw[HG.out]
 clear HW1
 obtain⟨w0,HW0⟩:=nm_ (w.alloc (.cells Tryz.zeroCells311 311))
 rw[HW0.out] at HD0 ⊢
 go_loopg [1,13] u (fun m uv iv wr=>∃ (v i:Nat) (ds:List UInt8),Hid (v=m)/\v<=u/\uv=.int .u64 v/\iv=.int .i64 i/\i+ds.length=65/\Hid (x16 v++ds=x16 u)/\Hid (Dx w g i ds wr))
 case atStart=>exact⟨u,65,[],hid rfl,Nat.le_refl _,rfl,rfl,rfl,hid (by simp),HD0⟩
 case round =>
  obtain⟨v,i,ds,hvm,hvu,rfl,rfl,hil,HE,HD⟩:=hrel
  have hlen:ds.length<=7:=by
   have h1:=congrArg List.length HE.out
   rw[List.length_append] at h1
   have:=x16_pos v
   have:=HU6.out
   omega
  obtain⟨j,hj⟩:∃ j,i=j+1:=⟨i-1,by omega⟩
  subst hj
  have hjl:j<65:=by omega
  have hji:(j:Int)<65:=by omega
  have hjs:(j:Int)+1-1=j:=by omega
  have kj:wr.cell? ⟨g,j,none⟩=some (.int .u8 ((zx (j+1) ds).getD j 0)):=xy HD.out.box j (by rw[zx_len];omega)
  have fj:wr.frozen? ⟨g,j,none⟩=false:=by
   have:=HD.out.box
   simp[World.frozen?,this]
  by_cases hv:v<16
  ·have hvi:¬ (16:Int)<=(v:Int):=by omega
   have hdx:=fun w=>dig_at v hv w
   unfold dg at hdx
   obtain⟨c,Hc⟩:=nm_ (dv v)
   have hc256:c<256:=by rw[<-Hc.out];exact dv_lt hv
   rw[Hc.out] at hdx
   obtain⟨W2,HW2⟩:=nm_ (wr.setCell ⟨g,j,none⟩ (.int .u8 (c:Int)))
   have HDS:Hid (Dx w g j (UInt8.ofNat c :: ds) W2):=hid (by
    have:=HD.out.step (UInt8.ofNat c)
    rwa [show (UInt8.ofNat c).toNat=c by rw[UInt8.toNat_ofNat'];omega,HW2.out] at this)
   have HES:Hid (UInt8.ofNat c :: ds=x16 u):=hid (by rw[<-HE.out,Z7 v hv,Hc.out];rfl)
   obtain⟨n,HNN⟩:=nm_ (65-j)
   have hn1:(65:Int)-j=n:=by have:=HNN.out;omega
   have hn2:65-j=n:=HNN.out
   have HCV:Hid (∀ dst,Tryz.prog.underlying dst=some .string->(convert 60 dst (.slice (some ⟨g,j,none⟩) n n)).run Tryz.prog W2=.ok (.string (strOfNums ((x16 u).map fun b=>(b.toNat:Int)))) W2):=hid (by
    rw[<-HES.out]
    refine run_convert_bytes_arg W2 60 5 uj und5 g j n n _ (by simp;have:=HNN.out;omega) fun i hi=>?_
    rw[xy HDS.out.box (j+i) (by rw[zx_len];simp;have:=HNN.out;omega)]
    simp[zx,List.getD_eq_getElem?_getD,List.getElem?_append_right])
   have hj0:(0:Int)<=(j:Int):=by omega
   have hj65:(j:Int)<=65:=by omega
   have hjne:¬ (65:Nat)=j:=by omega
   have hsl:∀ w,(Instr.sliceAt 311 (.pointer (some ⟨g,0,none⟩)) (some (.int .i64 j)) none none).run Tryz.prog w=.ok (.slice (some ⟨g,j,none⟩) n n) w:=fun w=>by
    go_simp
   have HW3:Hid (wr.setCell ⟨g,j,none⟩ (.int .u8 (c:Int))=W2):=hid HW2.out
   have HTE:Hid (strOfNums ((x16 u).map fun b=>(b.toNat:Int))=⟨(x16 u).toArray⟩):=hid (str_nums _)
   have hcv:=HCV.out 9 Tryz.underlying9
   rw[HTE.out] at hcv
   have HBL:Hid (Below g w W2):=HDS.out.bel
   obtain⟨T,HTT⟩:=nm_ ((⟨(x16 u).toArray⟩:ByteArray):ByteArray)
   rw[HTT.out] at hcv
   have hcv2:(convert 60 9 (.slice (some ⟨g,j,none⟩) n n)).run Tryz.prog (wr.setCell ⟨g,j,none⟩ (.int .u8 (c:Int)))=.ok (.string T) (wr.setCell ⟨g,j,none⟩ (.int .u8 (c:Int))):=by rw[HW3.out];exact hcv
   have HB3:Hid (Below g w (wr.setCell ⟨g,j,none⟩ (.int .u8 (c:Int)))):=hid (by rw[HW3.out];exact HBL.out)
   clear hcv
   go_wp2
   go_ret2
   exact⟨by rw[HTT.out];rfl,by rw[HG.out];exact HB3.out⟩
  ·have hvi:(16:Int)<=(v:Int):=by omega
   obtain⟨d,Hd⟩:=nm_ (v % 16)
   have ha:=and7 v (by omega)
   have hdx:=fun w=>dig_at (v % 16) (Nat.mod_lt _ (by omega)) w
   rw[Hd.out] at ha hdx
   obtain⟨c,Hc⟩:=nm_ (dv d)
   have hc256:c<256:=by rw[<-Hc.out];exact dv_lt (by have:=Hd.out;omega)
   rw[Hc.out] at hdx
   obtain⟨q,Hq⟩:=nm_ (v / 16)
   have hshr:(v:Int) / 16=(q:Int):=by have:=Hq.out;omega
   have hd8:d<16:=by have:=Hd.out;omega
   have HDS:Hid (Dx w g j (UInt8.ofNat c :: ds) (wr.setCell ⟨g,j,none⟩ (.int .u8 (c:Int)))):=hid (by
    have:=HD.out.step (UInt8.ofNat c)
    rwa [show (UInt8.ofNat c).toNat=c by rw[UInt8.toNat_ofNat'];omega] at this)
   have HES:Hid (x16 q++(UInt8.ofNat c :: ds)=x16 u):=hid (by
    rw[<-HE.out,x16_big v hv,Hq.out,Hd.out,Hc.out]
    simp)
   have hqv:q<v:=by have:=Hq.out;omega
   have hvm2:=hvm.out
   have HQM:Hid (q<gk):=hid (by rw[<-hvm2];exact hqv)
   clear hvm2
   unfold dg at hdx
   go_wp2
   go_roundg q
   case measure=>exact HQM.out
   case rel=>exact⟨q,j,_,hid rfl,by omega,rfl,rfl,by simp;omega,HES,HDS⟩
theorem fmtInt16 (u:Nat) (hu:u<4294967296) (w:World) (h:Db w):Calls Tryz.prog 149 #[.int .i64 u,.int .i64 16] w fun e w'=>e=.returned (.string ⟨(x16 u).toArray⟩)/\Below w.heap.size w w':=by
 have HF:Hid (Calls Tryz.prog 184 #[.slice none 0 0,.int .u64 u,.int .i64 16,.bool false,.bool false] w fun e w'=>e=.returned (.tuple #[.slice none 0 0,.string ⟨(x16 u).toArray⟩])/\Below w.heap.size w w'):=fmt16 u hu w h
 have h0:¬ (u:Int)<0:=by omega
 have hw:IntKind.u64.wrap (u:Int)=u:=wrap_u64 u (by omega)
 go_enter Tryz.func149,Tryz.ntmps149
 go_wp2_with fail
 refine HF.out.mono ?_
 rintro e w1 ⟨rfl,hb⟩
 go_wp2
 go_ret
 exact⟨rfl,hb⟩
theorem fmtI16 (u:Nat) (hu:u<4294967296) (w:World) (h:Db w):Calls Tryz.prog 122 #[.int .i64 u,.int .i64 16] w fun e w'=>e=.returned (.string ⟨(x16 u).toArray⟩)/\Below w.heap.size w w':=by
 have HF:Hid (Calls Tryz.prog 149 #[.int .i64 u,.int .i64 16] w fun e w'=>e=.returned (.string ⟨(x16 u).toArray⟩)/\Below w.heap.size w w'):=fmtInt16 u hu w h
 go_enter Tryz.func122,Tryz.ntmps122
 go_wp2_with fail
 refine HF.out.mono ?_
 rintro e w1 ⟨rfl,hb⟩
 go_wp2
 go_ret
 exact⟨rfl,hb⟩
def adX (k:Nat) (a:Option Addr) (cap j:Nat):Option Addr:=if cap=j then a else a.map (·.add (j*k))
section
variable {α : Type} {enc : α → List Value} {k : Nat} {d : α}
theorem Px.mid {w:World} {a:Option Addr} {cap:Nat} {l:List α} (h:Px enc k d w a cap l) (i j:Nat) (hij:i<=j) (hj:j<=l.length):Px enc k d w (adX k a cap i) (cap-i) ((l.drop i).take (j-i)) :=
 ⟨by rw[List.length_take,List.length_drop];have:=h.capl;omega,fun h0=>by
  rw[List.length_take,List.length_drop] at h0
  obtain⟨b,off,e1,e2,e3⟩:=h.at_ (by omega)
  subst e1
  have hc:=h.capl
  refine⟨b,off+i*k,by unfold adX;rw[if_neg (by omega),Option.map_some,yV],e2,fun q hq=>?_⟩
  rw[List.length_take,List.length_drop] at hq
  have:=e3 (i+q) (by omega)
  rw[show off+i*k+q*k=off+(i+q)*k by rw[Nat.add_mul];omega]
  rw[show ((l.drop i).take (j-i)).getD q d=l.getD (i+q) d by rw[List.getD_eq_getElem?_getD,List.getD_eq_getElem?_getD,List.getElem?_take,if_pos (by omega),List.getElem?_drop]]
  exact this,fun h2=>by
  have:a=none:=by
   unfold adX at h2
   split at h2
   ·exact h2
   ·cases a with
    | none=>rfl
    | some p=>cases h2
  have:=h.nil this
  omega⟩
end
section
variable {α : Type} {enc : α → List Value} {k : Nat} {d : α}
theorem Px.from {w:World} {a:Option Addr} {cap:Nat} {l:List α} (h:Px enc k d w a cap l) (i:Nat) (hi:i<=l.length):Px enc k d w (adX k a cap i) (cap-i) (l.drop i):=by
 have:=h.mid i l.length hi (Nat.le_refl _)
 rwa [List.take_of_length_le (by rw[List.length_drop];omega)] at this
end
def encB (x:UInt8):List Value:=[.int .u8 (x.toNat:Int)]
abbrev PB (w:World) (a:Option Addr) (cap:Nat) (s:Str):Prop:=Px encB 1 0 w a cap s
theorem PB.cell {w:World} {b off cap:Nat} {s:Str} (h:PB w (some ⟨b,off,none⟩) cap s) (i:Nat) (hi:i<s.length):w.cell? ⟨b,off+i,none⟩=some (.int .u8 ((s.getD i 0).toNat:Int)):=by
 obtain⟨b',off',e1,_,e3⟩:=h.at_ (by omega)
 cases e1
 have:=e3 i hi 0 _ rfl
 simpa using this
theorem Qj {w:World} {a:Option Addr} {cap:Nat} {s:Str} (h:PB w a cap s):(convert 60 9 (.slice a s.length cap)).run Tryz.prog w=.ok (sV s) w:=by
 cases a with
 | none =>
  have h0:s=[]:=List.length_eq_zero_iff.1 (by have:=h.nil rfl;have:=h.capl;omega)
  subst h0
  rw[run_convert_bytes_string w 60 9 5 none _ cap uj und5 Tryz.underlying9]
  rfl
 | some p =>
  by_cases h0:s.length=0
  ·obtain rfl:s=[]:=List.length_eq_zero_iff.1 h0
   exact run_convert_bytes_back w 60 9 5 p cap [] uj und5 Tryz.underlying9 (fun j hj=>absurd hj (by simp))
  ·obtain⟨b,off,e1,_⟩:=h.at_ (by omega)
   cases e1
   refine run_convert_bytes_back w 60 9 5 _ cap s uj und5 Tryz.underlying9 (fun j hj=>?_)
   rw[yV,PB.cell h j hj,List.getD_eq_getElem?_getD,List.getElem?_eq_getElem hj]
   rfl
theorem elem60:Tryz.prog.underlying 60=some (.slice (Tryz.prog.elem 60)):=by kernel_rfl
theorem size60e (w:World):(Go.sizeOf (Tryz.prog.elem 60)).run Tryz.prog w=.ok 1 w:=by kernel_rfl
theorem sl60 (a:Option Addr) (n cap i j:Nat) (J:Int) (hJ:J=(j:Int)) (hij:i<=j) (hj:j<=cap) (w:World):(Instr.slice 60 (.slice a n cap) (some (.int .i64 i)) (some (.int .i64 J)) none).run Tryz.prog w=.ok (.slice (adX 1 a cap i) (j-i:Nat) (cap-i:Nat)) w:=by
 subst hJ
 rw[run_slice_lh w 60 a n cap elem60 .i64 .i64 i j (by omega) (by omega) (by omega),size60e,Result.andThen_ok,sliced]
 rfl
theorem equal_pb {w:World} (a:Option Addr) (ca:Nat) (s:Str) (hA:PB w a ca s) (b:Option Addr) (cb:Nat) (t:Str) (hB:PB w b cb t) :
  Calls Tryz.prog 165 #[.slice a s.length ca,.slice b t.length cb] w fun e w'=>e=.returned (.bool (s == t))/\w'=w:=by
 obtain⟨n,HN⟩:=nm_ s.length
 obtain⟨m,HM⟩:=nm_ t.length
 have h1:(convert 60 9 (.slice a n ca)).run Tryz.prog w=.ok (sV s) w:=by rw[<-HN.out];exact Qj hA
 have h2:(convert 60 9 (.slice b m cb)).run Tryz.prog w=.ok (sV t) w:=by rw[<-HM.out];exact Qj hB
 unfold sV at h1 h2
 rw[HN.out,HM.out]
 clear hA hB
 go_enter Tryz.func165,Tryz.ntmps165
 go_wp2
 go_ret
 exact⟨rfl,rfl⟩
theorem sl60l (a:Option Addr) (n cap i:Nat) (hi:i<=n) (w:World):(Instr.slice 60 (.slice a n cap) (some (.int .i64 i)) none none).run Tryz.prog w=.ok (.slice (adX 1 a cap i) (n-i:Nat) (cap-i:Nat)) w:=by
 rw[run_slice_l w 60 a n cap elem60 .i64 i (by omega) (by omega),size60e,Result.andThen_ok,sliced]
 rfl
theorem yw (s t:Str):(⟨s.toArray⟩:ByteArray) ++ ⟨t.toArray⟩=⟨(s++t).toArray⟩:=by
 apply ByteArray.ext
 simp[ByteArray.data_append]
def bv (s:Str):List Value:=s.map (fun x=>Value.int .u8 (x.toNat:Int))
theorem jq (s:Str):(bv s).length=s.length:=by simp[bv]
theorem bv_one (s:Str):∀ u ∈ bv s,u.oneCell'=true:=by
 intro u hu
 obtain⟨x,_,rfl⟩:=List.mem_map.1 hu
 rfl
theorem bv_app (s t:Str):bv (s++t)=bv s++bv t:=by simp[bv]
structure Mk (w:World) (g cap:Nat) (s:Str):Prop where
 lt:g<w.heap.size
 capl:s.length<=cap
 at_:∀ (j:Nat) (u:Value),(bv s)[j]? = some u->w.cell? ⟨g,j,none⟩=some u
 spare:∀ i,s.length<=i->i<cap->(w.cell? ⟨g,i,none⟩).isSome=true/\w.frozen? ⟨g,i,none⟩=false
theorem PB.at {w:World} {b off cap:Nat} {s:Str} (h:PB w (some ⟨b,off,none⟩) cap s):∀ (j:Nat) (u:Value),(bv s)[j]? = some u->w.cell? ((⟨b,off,none⟩:Addr).add j)=some u:=fun j u hj=>by
 have hl:=(List.getElem?_eq_some_iff.1 hj).1
 rw[jq] at hl
 rw[yV,PB.cell h j hl]
 unfold bv at hj
 rw[List.getElem?_map,List.getElem?_eq_getElem hl] at hj
 rw[List.getD_eq_getElem?_getD,List.getElem?_eq_getElem hl]
 exact hj
theorem Mk.pb {w:World} {g cap:Nat} {s:Str} (h:Mk w g cap s):PB w (some ⟨g,0,none⟩) cap s :=
 ⟨h.capl,fun _=>⟨g,0,rfl,h.lt,fun i hi j v hv=>by
  have hj:j=0:=by
   have:=(List.getElem?_eq_some_iff.1 hv).1
   simp[encB] at this
   exact this
  subst hj
  rw[Nat.zero_add,Nat.mul_one,Nat.add_zero]
  refine h.at_ i v ?_
  simp only[encB,List.getElem?_cons_zero,Option.some.injEq] at hv
  unfold bv
  rw[List.getElem?_map,List.getElem?_eq_getElem hi,<-hv,List.getD_eq_getElem?_getD,List.getElem?_eq_getElem hi]
  rfl⟩,fun h=>by cases h⟩
theorem Mk.kept {w w':World} {g cap:Nat} {s:Str} (h:Mk w g cap s) (hs:w.heap.size<=w'.heap.size) (hb:w'.heap[g]? = w.heap[g]?):Mk w' g cap s :=
 ⟨Nat.lt_of_lt_of_le h.lt hs,h.capl,fun j u hj=>(World.cell?_of_block (a:=⟨g,j,none⟩) hb).trans (h.at_ j u hj),fun i h1 h2=>by
  have:=h.spare i h1 h2
  rw[World.cell?_of_block (a:=⟨g,i,none⟩) hb]
  refine⟨this.1,?_⟩
  rw[<-this.2]
  unfold World.frozen?
  rw[hb]⟩
theorem Mk.below {w w':World} {g cap:Nat} {s:Str} (h:Mk w g cap s) (hb:Below w.heap.size w w'):Mk w' g cap s:=h.kept hb.size (hb.block g h.lt)
theorem conv_mk (l:Str) (w:World):∃ cap w',(convert 9 60 (.string ⟨l.toArray⟩)).run Tryz.prog w=.ok (.slice (some ⟨w.heap.size,0,none⟩) l.length cap) w'/\Mk w' w.heap.size cap l/\Below w.heap.size w w':=by
 have hr:=run_bytes_of_string (P:=Tryz.prog) w 9 60 5 ⟨l.toArray⟩ Tryz.underlying9 uj und5
 have hsz:(⟨l.toArray⟩:ByteArray).size=l.length:=by simp[ByteArray.size]
 rw[hsz] at hr
 have hge:=grownCap_ge w l.length 0 5
 generalize grownCap w l.length 0 5=cap at hr hge
 have hrs:(bytesRow ⟨l.toArray⟩ cap).size=cap:=by simp[bytesRow,ByteArray.size];omega
 rw[hrs] at hr
 have h1:∀ i,i<l.length->(bytesRow ⟨l.toArray⟩ cap)[i]? = some (.int .u8 ((l.getD i 0).toNat:Int)):=fun i hi=>by
  simp[bytesRow,hi,Array.getElem?_append]
 generalize bytesRow ⟨l.toArray⟩ cap=R at hr h1 hrs
 have hh:(w.drew.alloc (.cells R 5 (cap,cap+1))).heap[w.heap.size]? = some (.cells R 5 (cap,cap+1)):=by
  show (w.heap.push _)[w.heap.size]? = _
  simp
 refine⟨cap,_,hr,⟨by simp,hge,fun j u hj=>?_,fun i g1 g2=>⟨?_,?_⟩⟩,rfl,rfl,rfl,by simp,fun k hk=>?_⟩
 ·have hl:=(List.getElem?_eq_some_iff.1 hj).1
  rw[jq] at hl
  unfold bv at hj
  rw[List.getElem?_map,List.getElem?_eq_getElem hl] at hj
  rw[World.cell?,hh]
  have:=h1 j hl
  rw[List.getD_eq_getElem?_getD,List.getElem?_eq_getElem hl] at this
  rw[<-hj]
  exact this
 ·rw[World.cell?,hh]
  show (R[i]?).isSome=true
  rw[Array.getElem?_eq_getElem (by omega)]
  rfl
 ·rw[World.frozen?,hh]
  simp
  omega
 ·show (w.heap.push _)[k]? = _
  rw[Array.getElem?_push_lt hk,Array.getElem?_eq_getElem hk]
theorem Px.lt {α:Type} {enc:α->List Value} {k:Nat} {d:α} {w:World} {a:Option Addr} {cap:Nat} {l:List α} (h:Px enc k d w a cap l):0<l.length->∀ p:Addr,a=some p->p.block<w.heap.size:=fun h0 p hp=>by
 obtain⟨b,off,e1,e2,_⟩:=h.at_ h0
 rw[e1] at hp
 cases hp
 exact e2
def Apd (w w':World) (g:Nat) (v:Value) (s:Str):Prop := ∃ g' cap',v=.slice (some ⟨g',0,none⟩) s.length cap'/\Mk w' g' cap' s/\(g'=g ∨ w.heap.size<=g')/\w.grownBy w' (some g)
theorem grown_cells (w:World) (g o:Nat) (l:List Value):w.grownBy (w.setCells g o l) (some g):=vz g l o w w ⟨rfl,rfl,rfl,Nat.le_refl _,fun _ _ _=>rfl⟩
theorem mk_room {w:World} {g cap:Nat} {s:Str} (hm:Mk w g cap s) (l:Str) (hr:s.length+l.length<=cap):Mk (w.setCells g s.length (bv l)) g cap (s++l):=by
 have hsp:∀ j,j<(bv l).length->(w.cell? ⟨g,s.length+j,none⟩).isSome=true:=fun j hj=>by
  rw[jq] at hj
  exact(hm.spare (s.length+j) (by omega) (by omega)).1
 refine⟨Nat.lt_of_lt_of_le hm.lt (grown_cells w g s.length (bv l)).size,by rw[List.length_append];exact hr,fun j u hj=>?_,fun i h1 h2=>?_⟩
 ·rw[bv_app] at hj
  by_cases hlt:j<s.length
  ·rw[World.cell?_setCells_out _ _ _ _ _ (fun _ _=>.inl hlt)]
   rw[List.getElem?_append_left (by rw[jq];exact hlt)] at hj
   exact hm.at_ j u hj
  ·rw[List.getElem?_append_right (by rw[jq];omega),jq] at hj
   obtain⟨k,rfl⟩:∃ k,j=s.length+k:=⟨j-s.length,by omega⟩
   rw[Nat.add_sub_cancel_left] at hj
   have hk:=(List.getElem?_eq_some_iff.1 hj).1
   rw[World.cell?_setCells_in _ _ _ _ hsp k hk,<-List.getElem?_eq_getElem hk]
   exact hj
 ·rw[List.length_append] at h1
  rw[World.cell?_setCells_out _ _ _ _ _ (fun _ _=>.inr (by show s.length+(bv l).length<=i;rw[jq];exact h1)),World.frozen?_setCells]
  exact hm.spare i (by omega) h2
theorem mk_own {w:World} {B:Nat} {v:Value} {s:Str} (h:w.ownsRow B 5 1 v s.length (bv s)) (h0:0<s.length):∃ g cap,v=.slice (some ⟨g,0,none⟩) s.length cap/\B<=g/\Mk w g cap s:=by
 obtain⟨hl,⟨hv,e0⟩ | ⟨g,cap,cur,hv,hb,hh,hkc,hcm,hsz,htk⟩⟩:=h
 ·omega
 ·refine⟨g,cap,hv,hb,z7 hh,hkc,fun j u hj=>?_,fun i h1 h2=>⟨?_,?_⟩⟩
  ·rw[cell_of_row w g j _ _ _ hh]
   rw[<-htk] at hj
   have hlt:=(List.getElem?_eq_some_iff.1 hj).1
   rw[List.length_take] at hlt
   rw[List.getElem?_take_of_lt (by omega)] at hj
   simpa using hj
  ·rw[cell_of_row w g i _ _ _ hh,Array.getElem?_eq_getElem (by omega)]
   rfl
  ·exact frozen_of_row w g i _ _ hh
theorem app_mk (w:World) (g cap:Nat) (s l:Str) (a:Option Addr) (c:Nat) (hm:Mk w g cap s) (hS:PB w a c l) (hl:s.length+l.length<=400000000) :
  ∃ v w',(Builtin.append_ #[60,60] 60 #[.slice (some ⟨g,0,none⟩) s.length cap,.slice a l.length c]).run Tryz.prog w=.ok v w'/\Apd w w' g v (s++l):=by
 obtain⟨i5,hi,hz0,hz1,hz2⟩:=qu Yy
 by_cases h0:l.length=0
 ·obtain rfl:l=[]:=List.length_eq_zero_iff.1 h0
  refine⟨.slice (some ⟨g,0,none⟩) s.length cap,w,?_,g,cap,by simp,by simpa using hm,.inl rfl,⟨rfl,rfl,rfl,Nat.le_refl _,fun _ _ _=>rfl⟩⟩
  have hc:=hm.capl
  cases a with
  | none=>simp[Builtin.append_,run_underlying uj,sizeOf,typeInfo,hi,Builtin.lenOf,Builtin.firstCells,hc,storeCells]
  | some ad=>simp[Builtin.append_,run_underlying uj,sizeOf,typeInfo,hi,Builtin.lenOf,Builtin.firstCells,hc,storeCells,loadCells,loadCellsFrom]
 ·obtain⟨b,off,rfl,hb,_⟩:=hS.at_ (by omega)
  by_cases hroom:s.length+l.length<=cap
  ·have hr:=run_append_room_cells (P:=Tryz.prog) w 60 60 5 i5 uj hi g 0 s.length cap ⟨b,off,none⟩ l.length c (bv l) (by rw[hz1,jq];simp) (PB.at hS) (bv_one l) hroom
    (fun j hj=>by
     rw[hz1,Nat.zero_add,Nat.mul_one]
     rw[jq] at hj
     exact(hm.spare (s.length+j) (by omega) (by omega)).1)
    (fun j hj=>by
     rw[hz1,Nat.zero_add,Nat.mul_one]
     rw[jq] at hj
     exact(hm.spare (s.length+j) (by omega) (by omega)).2)
   rw[hz1,Nat.zero_add,Nat.mul_one] at hr
   exact⟨_,_,hr,g,cap,by rw[List.length_append],mk_room hm l hroom,.inl rfl,grown_cells w g _ _⟩
  ·obtain⟨v',w',hr,hown,hg⟩:=run_append_arg_grows (P:=Tryz.prog) w 60 60 5 i5 (.int .u8 0) 1 1 uj hi hz0 hz1 hz2 rfl (by omega) ⟨g,0,none⟩ s.length cap (bv s) (by rw[jq];simp)
    (fun j u hj=>by rw[yV,Nat.zero_add];exact hm.at_ j u hj)
    ⟨b,off,none⟩ l.length c (bv l) (by rw[jq];simp) (PB.at hS) (by omega) (by unfold maxLen;omega) (by omega)
   rw[<-bv_app,<-List.length_append] at hown
   obtain⟨g',cap',rfl,h1,h2⟩:=mk_own hown (by rw[List.length_append];omega)
   exact⟨_,w',hr,g',cap',rfl,h2,.inr h1,⟨hg.os,hg.tape,hg.output,hg.size,fun k hk _=>hg.block k hk (by simp)⟩⟩
end Go.Proofs.YtgliaiemkfopeaaGreatDoor.K
