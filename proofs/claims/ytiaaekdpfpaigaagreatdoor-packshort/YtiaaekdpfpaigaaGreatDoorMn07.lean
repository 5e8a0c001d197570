import Derived.Test.YtiaaekdpfpaigaaGreatDoorMn06
import Derived.Test.YtiaaekdpfpaigaaGreatDoorMn01
set_option linter.unusedSimpArgs false
set_option linter.unusedVariables false
set_option maxRecDepth 20000
set_option maxHeartbeats 4000000
open Nat renaming le_refl->WzV
namespace Go.Proofs.YtiaaekdpfpaigaaGreatDoor.Df
open Go.Proofs.Tryz
open Go.RowKit Plain
def inflOf (zs:List Int) (most:Int):Res :=
 match zs with
 | x :: y :: rest =>
  if Y9 x y=true then
   match xX (x :: y :: rest) most ((2 ^ ((x / 16).toNat+8):Nat):Int) 16 [] with
   | .error k=>.error k
   | .ok (p,out)=>if Gu (x :: y :: rest) p out=true then .ok ((p+7) / 8+4,out) else .error 10
  else .error 10
 | _=>.error 10
structure TabsW (w:World):Prop where
 t2:∀ i,i<29->w.cell? ⟨1,i,none⟩=some (.int .i64 (lenStart.getD i 0:Nat))
 t3:∀ i,i<29->w.cell? ⟨2,i,none⟩=some (.int .i64 (lenBits.getD i 0:Nat))
 t4:∀ i,i<30->w.cell? ⟨3,i,none⟩=some (.int .i64 (distStart.getD i 0:Nat))
 t5:∀ i,i<30->w.cell? ⟨4,i,none⟩=some (.int .i64 (distBits.getD i 0:Nat))
 t6:∀ i,i<19->w.cell? ⟨6,i,none⟩=some (.int .i64 (third.getD i 0:Nat))
 lt:6<w.heap.size
theorem TabsW.tabs {w w':World} {E:Env} (h:TabsW w) (hb:Below w.heap.size w w') (hS:w.heap.size<=E.S):Qu w' E (.slice none 0 0):=by
 have hl:=h.lt;have hs:=hb.size;have ap:∀ k,k<=6->Apart w' E (.slice none 0 0) k:=fun k hk=>⟨by omega,by omega,by simp[Value.ownBlock]⟩;exact⟨fun i hi=>(hb.cell (p:=⟨1,i,none⟩) (by show 1<_;omega)).trans (h.t2 i hi),fun i hi=>(hb.cell (p:=⟨2,i,none⟩) (by show 2<_;omega)).trans (h.t3 i hi),
  fun i hi=>(hb.cell (p:=⟨3,i,none⟩) (by show 3<_;omega)).trans (h.t4 i hi),fun i hi=>(hb.cell (p:=⟨4,i,none⟩) (by show 4<_;omega)).trans (h.t5 i hi),
  fun i hi=>(hb.cell (p:=⟨6,i,none⟩) (by show 6<_;omega)).trans (h.t6 i hi),ap 1 (by omega),ap 2 (by omega),ap 3 (by omega),ap 4 (by omega),ap 6 (by omega)⟩
theorem Rd.sv {w:World} {E:Env} {p:Nat} {v:Value} (h:Rd w E p v):some E.S ≠ v.ownBlock:=by obtain⟨nx,hold,held,hst,-⟩:=h;exact hst.Sv
def PostI (B:Nat) (w:World) (r:Res) (e:Ending) (w':World):Prop :=
 Below B w w'/\match r with
 | .ok (n,out)=>IsB out/\∃ v,e=.returned (.tuple #[v,.int .i64 n,.nilIface])/\w'.ownsRow B 5 1 v out.length (out.map (Value.int .u8))
 | .error k=>e=.returned (.tuple #[.slice none 0 0,.int .i64 0,.iface 42 (.int .i64 k)])
theorem V8 {zs:List Int} {m:Int} (h:zs.length<2):inflOf zs m=.error 10:=by
 match zs,h with
 | [],_=>rfl
 | [_],_=>rfl
 | _ :: _ :: _,h=>simp at h;omega
def yJ (w:World) (ib io n cap:Nat) (M:Int):World :=
 (w.alloc (Obj.cells #[Value.nilIface] 35)).alloc (Obj.cells #[Value.slice (some ⟨ib,io,none⟩) n cap,Value.int IntKind.i64 0,Value.int IntKind.i64 0,Value.int IntKind.i64 0,Value.slice none 0 0,Value.int IntKind.i64 M,Value.int IntKind.i64 0] 230)
def Xq (w:World) (ib io cap:Nat) (zs:List Int) (M:Int):Env:=⟨w.heap.size+1,ib,io,cap,zs,M,0⟩
theorem Q0 (w:World) (ib io n cap:Nat) (M:Int):Below w.heap.size w (yJ w ib io n cap M) :=
 ((Below.refl _ w).alloc (WzV _) _).alloc (by simp) _
theorem W5 (w:World) (ib io n cap:Nat) (M:Int):(yJ w ib io n cap M).cell? ⟨w.heap.size,0,none⟩=some .nilIface/\(yJ w ib io n cap M).frozen? ⟨w.heap.size,0,none⟩=false:=by
 constructor <;> simp[yJ,go_sem]
theorem W6 (w:World) (ib io cap:Nat) (zs:List Int) (M:Int) (hib:ib<w.heap.size) (hat:At w ib io zs):Str (yJ w ib io zs.length cap M) (Xq w ib io cap zs M) 0 0 0 (.slice none 0 0):=by
 have hb:=Q0 w ib io zs.length cap M;refine⟨?_,?_,?_,?_,?_,?_,?_,?_,fun j hj=>(hb.cell (p:=⟨ib,io+j,none⟩) hib).trans (hat j hj),?_,?_,?_,?_,?_⟩
 ·simp[yJ,Xq,go_sem]
 ·simp[yJ,Xq,go_sem]
 ·simp[yJ,Xq,go_sem]
 ·simp[yJ,Xq,go_sem]
 ·simp[yJ,Xq,go_sem]
 ·simp[yJ,Xq,go_sem]
 ·simp[yJ,Xq,go_sem]
 ·intro i;simp[yJ,Xq,go_sem]
 ·simp[Xq];omega
 ·simp[Xq,Value.ownBlock]
 ·have:=hb.size;simp[Xq];omega
 ·simp[Xq,yJ]
 simp[Xq,Value.ownBlock]
theorem M9 (ib io cap:Nat) (zs:List Int) (most:Int) (w:World) (hz:IsB zs) (hl:zs.length<=400000) (hc:zs.length<=cap) (hat:At w ib io zs) (hib:ib<w.heap.size) (hm0:0<=most) (hm2:most<=300000) (ht:TabsW w) :
    Calls prog 108 #[.slice (some ⟨ib,io,none⟩) zs.length cap,.int .i64 most] w (PostI w.heap.size w (inflOf zs (max most 0))):=by
  obtain⟨r,HR0⟩:=nm_ (inflOf zs (max most 0))
  rw[HR0.out]
  have hmf:∀ (fn:Fn) (first cap:Array Value) (w:World),(Instr.makeFunc fn first cap).run prog w=.ok (.func fn first cap) w:=fun _ _ _ _=>rfl
  have hmx:max most 0=most:=by omega
  rw[hmx] at HR0
  have hb1:=Q0 w ib io zs.length cap most
  obtain⟨ec,ez⟩:=W5 w ib io zs.length cap most
  have hst:=W6 w ib io cap zs most hib hat
  go_enter_defers func108,ntmps108
  go_wp2_with fail
  rw[show (w.alloc (Obj.cells #[Value.nilIface] 35)).alloc (Obj.cells #[Value.slice (some ⟨ib,io,none⟩) zs.length cap,Value.int IntKind.i64 0,Value.int IntKind.i64 0,Value.int IntKind.i64 0,Value.slice none 0 0,Value.int IntKind.i64 most,Value.int IntKind.i64 0] 230)=yJ w ib io zs.length cap most from rfl]
  obtain⟨w1,HW1⟩:=nn_ (yJ w ib io zs.length cap most)
  obtain⟨E,HE⟩:=nn_ (Xq w ib io cap zs most)
  rw[<-HW1.out] at hb1 ec ez hst ⊢
  rw[<-HE.out] at hst
  have hzs:E.zs=zs:=by rw[HE.out];rfl
  have hES:E.S=w.heap.size+1:=by rw[HE.out];rfl
  have leave:∀ (k:Int) (v':Value) (w2:World),Kept E.S (.slice none 0 0) v' w1 w2->w2.cell? ⟨w.heap.size,0,none⟩=some .nilIface/\w2.frozen? ⟨w.heap.size,0,none⟩=false/\Below w.heap.size w (w2.setCell ⟨w.heap.size,0,none⟩ (.iface 42 (.int .i64 k))):=by
    intro k v' w2 K2
    have hs1:=hb1.size
    have hG:w2.heap[w.heap.size]? = w1.heap[w.heap.size]? := K2.block _ (by rw[HW1.out];simp[yJ];omega) (by omega) (by simp[Value.ownBlock])
    exact⟨(World.cell?_of_block (a:=⟨w.heap.size,0,none⟩) hG).trans ec,(World.frozen?_of_block (a:=⟨w.heap.size,0,none⟩) hG).trans ez,(K2.below hb1 (WzV _) (by omega) (by simp[Value.ownBlock])).setCell (WzV _) _⟩
  rw[<-hES]
  by_cases h2:E.zs.length<2
  · obtain rfl:Except.error 10=r:=(V8 (hzs ▸ h2)).symm.trans HR0.out
    refine(Yz E (.slice none 0 0) w1 (hzs ▸ hz) (hzs ▸ hl) hst h2).mono ?_
    rintro e w2 ⟨rfl,k2⟩
    obtain⟨l1,l2,l3⟩:=leave 10 _ w2 (k2.weak _)
    have l4:=World.cell?_setCell_same w2 _ (.iface 42 (.int .i64 10)) l1
    simp only[bodyPostD]
    refine leaves_cons (f:=122) (args:=#[.pointer (some ⟨w.heap.size,0,none⟩)]) (by simp) (by simp[go_sem]) ?_
    refine(qj ⟨w.heap.size,0,none⟩ 10 _ [] _ l1 l2).mono ?_
    rintro e u' w'' ⟨rfl,rfl,rfl⟩
    simp[Leaves,settle,results,Tryz.results108,go_sem,l4]
    exact⟨l3,rfl⟩
  obtain⟨x,y,rest,hxy⟩:∃ x y rest,E.zs=x :: y :: rest:=by
    match hq:E.zs,h2 with
    | [],h=>simp at h
    | [_],h=>simp at h
    | x :: y :: rest,_=>exact⟨x,y,rest,rfl⟩
  have hin:(if Y9 x y=true then
      match xX (x :: y :: rest) most ((2 ^ ((x / 16).toNat+8):Nat):Int) 16 [] with
      | .error k=>.error k
      | .ok (p,out)=>if Gu (x :: y :: rest) p out=true then .ok ((p+7) / 8+4,out) else .error 10
    else (.error 10:Res))=r:=by rw[<-HR0.out,<-hzs,hxy];rfl
  have HIN:Hid (_=r):=hin
  clear hin
  refine(ju E x y rest (.slice none 0 0) w1 hxy (hzs ▸ hz) (hzs ▸ hl) hst).mono ?_
  rintro e w2 ⟨k2,hP2⟩
  by_cases hh:Y9 x y=true
  rotate_left
  · rw[if_neg hh] at hP2
    have hin:=HIN.out
    rw[if_neg hh] at hin
    subst hP2 hin
    obtain⟨l1,l2,l3⟩:=leave 10 _ w2 (k2.weak _)
    have l4:=World.cell?_setCell_same w2 _ (.iface 42 (.int .i64 10)) l1
    simp only[bodyPostD]
    refine leaves_cons (f:=122) (args:=#[.pointer (some ⟨w.heap.size,0,none⟩)]) (by simp) (by simp[go_sem]) ?_
    refine(qj ⟨w.heap.size,0,none⟩ 10 _ [] _ l1 l2).mono ?_
    rintro e u' w'' ⟨rfl,rfl,rfl⟩
    simp[Leaves,settle,results,Tryz.results108,go_sem,l4]
    exact⟨l3,rfl⟩
  rw[if_pos hh] at hP2
  obtain⟨rfl,hst2⟩:=hP2
  have hin:=HIN.out
  rw[if_pos hh] at hin
  have hx7:(x / 16).toNat<=7:=by
    unfold Y9 at hh
    simp only[Bool.and_eq_true,decide_eq_true_eq] at hh
    have:=hh.1.1.2
    omega
  obtain⟨W,HW⟩:=nn_ (2 ^ ((x / 16).toNat+8):Nat)
  have hW:W<=40000:=by
    have h1:2 ^ ((x / 16).toNat+8)<=2 ^ 15:=Nat.pow_le_pow_right (by omega) (by omega)
    have h2:=HW.out
    omega
  rw[<-HW.out] at hin hst2
  rw[<-hxy] at hin
  have HIN2:Hid (_=r):=hin
  clear hin HIN hx7 HW
  obtain⟨E2,HE2⟩:=nn_ ({ E with win:=(W:Int) } : Env)
  rw[<-HE2.out] at hst2
  have e2S:E2.S=E.S:=by rw[HE2.out]
  have e2z:E2.zs=E.zs:=by rw[HE2.out]
  have e2c:E2.cap=cap:=by rw[HE2.out,HE.out];rfl
  have e2m:E2.most=most:=by rw[HE2.out,HE.out];rfl
  have e2w:E2.win=W:=by rw[HE2.out]
  have hz2:IsB E2.zs:=by rw[e2z,hzs];exact hz
  have hl2:E2.zs.length<=400000:=by rw[e2z,hzs];exact hl
  have hc2:E2.zs.length<=E2.cap:=by rw[e2z,hzs,e2c];exact hc
  have K2:Kept E2.S (.slice none 0 0) (.slice none 0 0) w1 w2:=by rw[e2S];exact k2.weak _
  have hb2:Below w.heap.size w w2:=K2.below hb1 (WzV _) (by omega) (by simp[Value.ownBlock])
  have T1:Qu w1 E2 (.slice none 0 0):=ht.tabs hb1 (by omega)
  have S2:St w2 E2 w.heap.size 16 (.slice none 0 0) []:=⟨⟨2,0,0,hst2,by omega,by omega,by rw[e2z];omega,by show 0=_;rw[Z8]⟩,⟨rfl,.inl ⟨rfl,rfl⟩⟩,(fun x hx=>by cases hx),hb2.size,by rw[e2m];simpa using hm0⟩
  rw[<-e2z,<-e2m,<-e2w] at HIN2
  have hw2:E2.win<=40000:=by rw[e2w];omega
  have hw3:0<=E2.win:=by rw[e2w];omega
  have hm3:E2.most<=300000:=by rw[e2m];exact hm2
  have leave2:∀ (k:Int) (v':Value) (w2:World),Kept E2.S (.slice none 0 0) v' w1 w2->w2.cell? ⟨w.heap.size,0,none⟩=some .nilIface/\w2.frozen? ⟨w.heap.size,0,none⟩=false/\Below w.heap.size w (w2.setCell ⟨w.heap.size,0,none⟩ (.iface 42 (.int .i64 k))):=by rw[e2S];exact leave
  have hS2:E2.S=w.heap.size+1:=by rw[e2S,hES]
  obtain⟨bs,HBS⟩:=nm_ (xX E2.zs E2.most E2.win 16 [])
  rw[HBS.out] at HIN2
  rw[e2S.symm]
  have hG1:w.heap.size<w1.heap.size:=by rw[HW1.out];simp[yJ];omega
  clear leave hst2 hst k2 HE2 HE HW1 e2S e2c e2m e2w e2z hzs hES ec ez hh h2 hmx HR0 hat hib hc hl hz hxy
  go_wp2_with fail
  go_loopg [8] (8*E2.zs.length-16+1) (fun k i wr=>∃ (b:Bool) (p':Nat) (v':Value) (out':List Int),i=.bool b/\k=(if b=true then 0 else 8*E2.zs.length-p'+1)/\Hid (if b=true then bs=.ok (p',out') else xX E2.zs E2.most E2.win p' out'=bs)/\Hid (St wr E2 w.heap.size p' v' out')/\Hid (Kept E2.S (.slice none 0 0) v' w1 wr))
  case atStart=>exact⟨false,16,_,[],rfl,by simp,HBS,S2,K2⟩
  case round =>
    clear S2 K2 HBS
    obtain⟨b,p',v',out',rfl,hk,HB,HS,HK⟩:=hrel
    cases b with
    | false =>
      have hB:=HB.out
      simp only[Bool.false_eq_true,if_false] at hB hk
      rw[X3] at hB
      by_cases hsh:8*E2.zs.length<p'+3
      · rw[if_pos hsh] at hB
        have hin:=HIN2.out
        subst hB
        simp only at hin
        subst hin
        go_wp2_with fail
        rw[<-hS2]
        refine(Qk E2 p' v' wr hz2 hl2 HS.out.rd hsh).mono ?_
        rintro e w3 ⟨rfl,k3⟩
        obtain⟨l1,l2,l3⟩:=leave2 10 _ w3 (HK.out.trans (k3.weak _))
        have l4:=World.cell?_setCell_same w3 _ (.iface 42 (.int .i64 10)) l1
        simp only[bodyPostD]
        refine leaves_cons (f:=122) (args:=#[.pointer (some ⟨w.heap.size,0,none⟩)]) (by simp) (by simp[go_sem]) ?_
        refine(qj ⟨w.heap.size,0,none⟩ 10 _ [] _ l1 l2).mono ?_
        rintro e u' w'' ⟨rfl,rfl,rfl⟩
        simp[Leaves,settle,results,Tryz.results108,go_sem,l4]
        exact⟨l3,rfl⟩
      · rw[if_neg hsh] at hB
        have HB2:Hid (_=bs):=hB
        clear hB HB
        go_wp2_with fail
        rw[<-hS2]
        refine(Xw E2 w.heap.size p' v' out' wr hz2 hl2 HS.out (by omega) hc2 hw2 hw3 (T1.kept HK.out) (by omega)).mono ?_
        rintro e w3 hP
        have hB:=HB2.out
        cases hbo:uK E2.zs E2.most E2.win (zZ E2.zs (p'+1) 2) (p'+1+2) out' with
        | error k3 =>
          rw[hbo] at hP hB
          simp only at hB
          obtain⟨rfl,v3,K3⟩:=hP
          have hin:=HIN2.out
          subst hB
          simp only at hin
          subst hin
          obtain⟨l1,l2,l3⟩:=leave2 k3 _ w3 (HK.out.trans K3)
          have l4:=World.cell?_setCell_same w3 _ (.iface 42 (.int .i64 k3)) l1
          simp only[bodyPostD]
          refine leaves_cons (f:=122) (args:=#[.pointer (some ⟨w.heap.size,0,none⟩)]) (by simp) (by simp[go_sem]) ?_
          refine(qj ⟨w.heap.size,0,none⟩ k3 _ [] _ l1 l2).mono ?_
          rintro e u' w'' ⟨rfl,rfl,rfl⟩
          simp[Leaves,settle,results,Tryz.results108,go_sem,l4]
          exact⟨l3,rfl⟩
        | ok qo =>
          obtain⟨q,o⟩:=qo
          rw[hbo] at hP hB
          simp only at hB
          obtain⟨rfl,v3,S3,K3⟩:=hP
          have hge:=X0 hbo
          have HS3:Hid (St w3 E2 w.heap.size q v3 o):=S3
          have HK3:Hid (Kept E2.S (.slice none 0 0) v3 w1 w3):=HK.out.trans K3
          clear S3 K3 HB2 hbo
          by_cases hg:zZ E2.zs p' 1=1
          · rw[if_pos hg] at hB
            rw[hg]
            have HB3:Hid (bs=.ok (q,o)):=hB.symm
            clear hB
            go_wp2
            go_roundg 0
            case measure=>omega
            case rel=>exact⟨true,q,v3,o,rfl,by simp,HB3,HS3,HK3⟩
          · rw[if_neg hg] at hB
            have hgz:(((zZ E2.zs p' 1:Nat):Int) == 1)=false:=by simp;omega
            rw[hgz]
            have HB3:Hid (xX E2.zs E2.most E2.win q o=bs):=hB
            clear hB hgz
            go_wp2
            go_roundg (8*E2.zs.length-q+1)
            case measure=>omega
            case rel=>exact⟨false,q,v3,o,rfl,by simp,HB3,HS3,HK3⟩
    | true =>
      have hB:=HB.out
      simp only[if_true] at hB
      have hin:=HIN2.out
      rw[hB] at hin
      simp only at hin
      have HIN3:Hid (_=r):=hin
      clear hin HIN2 hB HB
      go_wp2_with fail
      rw[<-hS2]
      refine(V7 E2 w.heap.size p' v' out' wr hz2 hl2 HS.out hm3).mono ?_
      rintro e w3 ⟨k3,hP⟩
      have hin:=HIN3.out
      by_cases hsu:Gu E2.zs p' out'=true
      rotate_left
      · rw[if_neg hsu] at hP hin
        subst hP hin
        obtain⟨l1,l2,l3⟩:=leave2 10 _ w3 (HK.out.trans (k3.weak _))
        have l4:=World.cell?_setCell_same w3 _ (.iface 42 (.int .i64 10)) l1
        simp only[bodyPostD]
        refine leaves_cons (f:=122) (args:=#[.pointer (some ⟨w.heap.size,0,none⟩)]) (by simp) (by simp[go_sem]) ?_
        refine(qj ⟨w.heap.size,0,none⟩ 10 _ [] _ l1 l2).mono ?_
        rintro e u' w'' ⟨rfl,rfl,rfl⟩
        simp[Leaves,settle,results,Tryz.results108,go_sem,l4]
        exact⟨l3,rfl⟩
      rw[if_pos hsu] at hP hin
      subst hin
      obtain⟨rfl,hold,held,s3⟩:=hP
      obtain⟨l1,l2,-⟩:=leave2 10 _ w3 (HK.out.trans (k3.weak _))
      have HO3:Hid (w3.ownsRow w.heap.size 5 1 v' out'.length (out'.map (Value.int .u8))):=k3.owns HS.out.own HS.out.rd.sv
      have hib:=HS.out.isB
      have HK3:Hid (Kept E2.S (.slice none 0 0) v' w1 w3):=HK.out.trans (k3.weak _)
      have c4:=s3.c4
      have c1:=s3.c1
      clear s3 k3 HIN3 HS
      obtain⟨u,HU⟩:=nn_ ((p'+7) / 8+4)
      rw[<-HU.out] at c1 ⊢
      rw[hS2] at c4 c1
      have hbw:Below w.heap.size w w3:=HK3.out.below hb1 (WzV _) (by omega) (by simp[Value.ownBlock])
      have HBW:Hid (Below w.heap.size w w3):=hbw
      clear hbw
      have hnv:some w.heap.size ≠ v'.ownBlock:=HK3.out.off hG1 (by simp[Value.ownBlock])
      have HOF:Hid ((w3.setCell ⟨w.heap.size,0,none⟩ .nilIface).ownsRow w.heap.size 5 1 v' out'.length (out'.map (Value.int .u8))):=uq (w:=w3) HO3.out w.heap.size 0 .nilIface hnv
      have HBF:Hid (Below w.heap.size w (w3.setCell ⟨w.heap.size,0,none⟩ .nilIface)):=Below.setCell (w:=w3) ⟨HBW.out.os,HBW.out.tape,HBW.out.output,HBW.out.size,HBW.out.block⟩ (WzV _) _
      have l4:=World.cell?_setCell_same w3 _ .nilIface l1
      clear hnv
      go_wp2
      go_region
      all_goals
        go_wp2
        simp only[bodyPostD]
        refine leaves_cons (f:=122) (args:=#[.pointer (some ⟨w.heap.size,0,none⟩)]) (by simp) (by simp[go_sem]) ?_
        refine(W4 ⟨w.heap.size,0,none⟩ _).mono ?_
        rintro e u' w'' ⟨rfl,rfl,rfl⟩
        simp[Leaves,settle,results,Tryz.results108,go_sem,l4]
        rw[<-HU.out]
        exact⟨⟨HBF.out.os,HBF.out.tape,HBF.out.output,HBF.out.size,HBF.out.block⟩,hib,_,rfl,HOF.out⟩
end Go.Proofs.YtiaaekdpfpaigaaGreatDoor.Df
