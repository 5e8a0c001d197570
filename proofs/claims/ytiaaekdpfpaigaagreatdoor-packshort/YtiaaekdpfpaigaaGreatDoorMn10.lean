import Derived.LaidEql
import Derived.Stop.Asserts
import Derived.RowKitTokens
import Derived.ProofKit
import Derived.OpenShut
import Derived.Deep.DeepHandedRow
import Derived.Lib.LaidTab
import Derived.LaidLaws
import Derived.LaidHandle
import Derived.Laws.OwnMore
import Derived.Maps.OwnOps
import Derived.Maps.OwnSet
import Derived.Maps.Views
import Derived.Test.YtiaaekdpfpaigaaGreatDoorMn09
import Derived.Test.YtiaaekdpfpaigaaGreatDoorMn01
set_option linter.unusedSimpArgs false
set_option linter.unusedVariables false
set_option maxRecDepth 20000
set_option maxHeartbeats 4000000
open Int renaming toNat_natCast->Wz0
open List renaming length_drop->Wz8,replicate->WqV
open Nat renaming add_mul->WyX,div_eq_of_lt->Wyq,le_refl->WzV,lt_of_lt_of_le->Wqj,mod_eq_of_lt->WyJ,mul_add_div->WyK,mul_add_mod->WyV,mul_comm->Wyv,mul_le_mul->Wyw,mul_le_mul_right->WyW,mul_mod_left->WyY,pow_le_pow_right->Wqk
namespace Go.Proofs.YtiaaekdpfpaigaaGreatDoor.Df
open Go.Proofs.Tryz
open Go.RowKit Plain
theorem D2 (ib io cap:Nat) (zs:List Int) (most:Int) (w:World) (hz:IsB zs) (hl:zs.length<=400000) (hc:zs.length<=cap) (hat:At w ib io zs) (hib:ib<w.heap.size) (hm0:most<0) (ht:TabsW w) :
    Calls prog 108 #[.slice (some ⟨ib,io,none⟩) zs.length cap,.int .i64 most] w (PostI w.heap.size w (inflOf zs (max most 0))):=by
  obtain⟨r,HR0⟩:=nm_ (inflOf zs (max most 0))
  rw[HR0.out]
  have hmf:∀ (fn:Fn) (first cap:Array Value) (w:World),(Instr.makeFunc fn first cap).run prog w=.ok (.func fn first cap) w:=fun _ _ _ _=>rfl
  have hmx:max most 0=0:=by omega
  rw[hmx] at HR0
  have hb1:=Q0 w ib io zs.length cap 0
  obtain⟨ec,ez⟩:=W5 w ib io zs.length cap 0
  have hst:=W6 w ib io cap zs 0 hib hat
  go_enter_defers func108,ntmps108
  go_wp2_with fail
  rw[show (w.alloc (Obj.cells #[Value.nilIface] 35)).alloc (Obj.cells #[Value.slice (some ⟨ib,io,none⟩) zs.length cap,Value.int IntKind.i64 0,Value.int IntKind.i64 0,Value.int IntKind.i64 0,Value.slice none 0 0,Value.int IntKind.i64 0,Value.int IntKind.i64 0] 230)=yJ w ib io zs.length cap 0 from rfl]
  obtain⟨w1,HW1⟩:=nn_ (yJ w ib io zs.length cap 0)
  obtain⟨E,HE⟩:=nn_ (Xq w ib io cap zs 0)
  rw[<-HW1.out] at hb1 ec ez hst ⊢
  rw[<-HE.out] at hst
  have hzs:E.zs=zs:=by rw[HE.out];rfl
  have hES:E.S=w.heap.size+1:=by rw[HE.out];rfl
  have leave:∀ (k:Int) (v':Value) (w2:World),Kept E.S (.slice none 0 0) v' w1 w2->w2.cell? ⟨w.heap.size,0,none⟩=some .nilIface/\w2.frozen? ⟨w.heap.size,0,none⟩=false/\Below w.heap.size w (w2.setCell ⟨w.heap.size,0,none⟩ (.iface 42 (.int .i64 k))):=by
    intro k v' w2 K2
    have hs1:=hb1.size
    have hG:w2.heap[w.heap.size]? = w1.heap[w.heap.size]? := K2.block _ (by rw[HW1.out];simp[yJ];omega) (by omega) (by simp[Value.ownBlock])
    exact⟨(World.cell?_of_block (a:=⟨w.heap.size,0,none⟩) hG).trans ec,(World.frozen?_of_block (a:=⟨w.heap.size,0,none⟩) hG).trans ez,(K2.below hb1 (WzV _) (by omega) (by simp[Value.ownBlock])).setCell (WzV _) _⟩
  rw[<-hES]
  by_cases h2:E.zs.length<2
  · obtain rfl:Except.error 10=r:=(V8 (hzs ▸ h2)).symm.trans HR0.out
    refine(Yz E (.slice none 0 0) w1 (hzs ▸ hz) (hzs ▸ hl) hst h2).mono ?_
    rintro e w2 ⟨rfl,k2⟩
    obtain⟨l1,l2,l3⟩:=leave 10 _ w2 (k2.weak _)
    have l4:=World.cell?_setCell_same w2 _ (.iface 42 (.int .i64 10)) l1
    simp only[bodyPostD]
    refine leaves_cons (f:=122) (args:=#[.pointer (some ⟨w.heap.size,0,none⟩)]) (by simp) (by simp[go_sem]) ?_
    refine(qj ⟨w.heap.size,0,none⟩ 10 _ [] _ l1 l2).mono ?_
    rintro e u' w'' ⟨rfl,rfl,rfl⟩
    simp[Leaves,settle,results,Tryz.results108,go_sem,l4]
    exact⟨l3,rfl⟩
  obtain⟨x,y,rest,hxy⟩:∃ x y rest,E.zs=x :: y :: rest:=by
    match hq:E.zs,h2 with
    | [],h=>simp at h
    | [_],h=>simp at h
    | x :: y :: rest,_=>exact⟨x,y,rest,rfl⟩
  have hin:(if Y9 x y=true then
      match xX (x :: y :: rest) 0 ((2 ^ ((x / 16).toNat+8):Nat):Int) 16 [] with
      | .error k=>.error k
      | .ok (p,out)=>if Gu (x :: y :: rest) p out=true then .ok ((p+7) / 8+4,out) else .error 10
    else (.error 10:Res))=r:=by rw[<-HR0.out,<-hzs,hxy];rfl
  have HIN:Hid (_=r):=hin
  clear hin
  refine(ju E x y rest (.slice none 0 0) w1 hxy (hzs ▸ hz) (hzs ▸ hl) hst).mono ?_
  rintro e w2 ⟨k2,hP2⟩
  by_cases hh:Y9 x y=true
  rotate_left
  · rw[if_neg hh] at hP2
    have hin:=HIN.out
    rw[if_neg hh] at hin
    subst hP2 hin
    obtain⟨l1,l2,l3⟩:=leave 10 _ w2 (k2.weak _)
    have l4:=World.cell?_setCell_same w2 _ (.iface 42 (.int .i64 10)) l1
    simp only[bodyPostD]
    refine leaves_cons (f:=122) (args:=#[.pointer (some ⟨w.heap.size,0,none⟩)]) (by simp) (by simp[go_sem]) ?_
    refine(qj ⟨w.heap.size,0,none⟩ 10 _ [] _ l1 l2).mono ?_
    rintro e u' w'' ⟨rfl,rfl,rfl⟩
    simp[Leaves,settle,results,Tryz.results108,go_sem,l4]
    exact⟨l3,rfl⟩
  rw[if_pos hh] at hP2
  obtain⟨rfl,hst2⟩:=hP2
  have hin:=HIN.out
  rw[if_pos hh] at hin
  have hx7:(x / 16).toNat<=7:=by
    unfold Y9 at hh
    simp only[Bool.and_eq_true,decide_eq_true_eq] at hh
    have:=hh.1.1.2
    omega
  obtain⟨W,HW⟩:=nn_ (2 ^ ((x / 16).toNat+8):Nat)
  have hW:W<=40000:=by
    have h1:2 ^ ((x / 16).toNat+8)<=2 ^ 15:=Wqk (by omega) (by omega)
    have h2:=HW.out
    omega
  rw[<-HW.out] at hin hst2
  rw[<-hxy] at hin
  have HIN2:Hid (_=r):=hin
  clear hin HIN hx7 HW
  obtain⟨E2,HE2⟩:=nn_ ({ E with win:=(W:Int) } : Env)
  rw[<-HE2.out] at hst2
  have e2S:E2.S=E.S:=by rw[HE2.out]
  have e2z:E2.zs=E.zs:=by rw[HE2.out]
  have e2c:E2.cap=cap:=by rw[HE2.out,HE.out];rfl
  have e2m:E2.most=0:=by rw[HE2.out,HE.out];rfl
  have e2w:E2.win=W:=by rw[HE2.out]
  have hz2:IsB E2.zs:=by rw[e2z,hzs];exact hz
  have hl2:E2.zs.length<=400000:=by rw[e2z,hzs];exact hl
  have hc2:E2.zs.length<=E2.cap:=by rw[e2z,hzs,e2c];exact hc
  have K2:Kept E2.S (.slice none 0 0) (.slice none 0 0) w1 w2:=by rw[e2S];exact k2.weak _
  have hb2:Below w.heap.size w w2:=K2.below hb1 (WzV _) (by omega) (by simp[Value.ownBlock])
  have T1:Qu w1 E2 (.slice none 0 0):=ht.tabs hb1 (by omega)
  have S2:St w2 E2 w.heap.size 16 (.slice none 0 0) []:=⟨⟨2,0,0,hst2,by omega,by omega,by rw[e2z];omega,by show 0=_;rw[Z8]⟩,⟨rfl,.inl ⟨rfl,rfl⟩⟩,(fun x hx=>by cases hx),hb2.size,by rw[e2m];simp⟩
  rw[<-e2z,<-e2m,<-e2w] at HIN2
  have hw2:E2.win<=40000:=by rw[e2w];omega
  have hw3:0<=E2.win:=by rw[e2w];omega
  have hm3:E2.most<=300000:=by rw[e2m];omega
  have leave2:∀ (k:Int) (v':Value) (w2:World),Kept E2.S (.slice none 0 0) v' w1 w2->w2.cell? ⟨w.heap.size,0,none⟩=some .nilIface/\w2.frozen? ⟨w.heap.size,0,none⟩=false/\Below w.heap.size w (w2.setCell ⟨w.heap.size,0,none⟩ (.iface 42 (.int .i64 k))):=by rw[e2S];exact leave
  have hS2:E2.S=w.heap.size+1:=by rw[e2S,hES]
  obtain⟨bs,HBS⟩:=nm_ (xX E2.zs E2.most E2.win 16 [])
  rw[HBS.out] at HIN2
  rw[e2S.symm]
  have hG1:w.heap.size<w1.heap.size:=by rw[HW1.out];simp[yJ];omega
  clear leave hst2 hst k2 HE2 HE HW1 e2S e2c e2m e2w e2z hzs hES ec ez hh h2 hmx HR0 hat hib hc hl hz hxy
  go_wp2_with fail
  go_loopg [8] (8*E2.zs.length-16+1) (fun k i wr=>∃ (b:Bool) (p':Nat) (v':Value) (out':List Int),i=.bool b/\k=(if b=true then 0 else 8*E2.zs.length-p'+1)/\Hid (if b=true then bs=.ok (p',out') else xX E2.zs E2.most E2.win p' out'=bs)/\Hid (St wr E2 w.heap.size p' v' out')/\Hid (Kept E2.S (.slice none 0 0) v' w1 wr))
  case atStart=>exact⟨false,16,_,[],rfl,by simp,HBS,S2,K2⟩
  case round =>
    clear S2 K2 HBS
    obtain⟨b,p',v',out',rfl,hk,HB,HS,HK⟩:=hrel
    cases b with
    | false =>
      have hB:=HB.out
      simp only[Bool.false_eq_true,if_false] at hB hk
      rw[X3] at hB
      by_cases hsh:8*E2.zs.length<p'+3
      · rw[if_pos hsh] at hB
        have hin:=HIN2.out
        subst hB
        simp only at hin
        subst hin
        go_wp2_with fail
        rw[<-hS2]
        refine(Qk E2 p' v' wr hz2 hl2 HS.out.rd hsh).mono ?_
        rintro e w3 ⟨rfl,k3⟩
        obtain⟨l1,l2,l3⟩:=leave2 10 _ w3 (HK.out.trans (k3.weak _))
        have l4:=World.cell?_setCell_same w3 _ (.iface 42 (.int .i64 10)) l1
        simp only[bodyPostD]
        refine leaves_cons (f:=122) (args:=#[.pointer (some ⟨w.heap.size,0,none⟩)]) (by simp) (by simp[go_sem]) ?_
        refine(qj ⟨w.heap.size,0,none⟩ 10 _ [] _ l1 l2).mono ?_
        rintro e u' w'' ⟨rfl,rfl,rfl⟩
        simp[Leaves,settle,results,Tryz.results108,go_sem,l4]
        exact⟨l3,rfl⟩
      · rw[if_neg hsh] at hB
        have HB2:Hid (_=bs):=hB
        clear hB HB
        go_wp2_with fail
        rw[<-hS2]
        refine(Xw E2 w.heap.size p' v' out' wr hz2 hl2 HS.out (by omega) hc2 hw2 hw3 (T1.kept HK.out) (by omega)).mono ?_
        rintro e w3 hP
        have hB:=HB2.out
        cases hbo:uK E2.zs E2.most E2.win (zZ E2.zs (p'+1) 2) (p'+1+2) out' with
        | error k3 =>
          rw[hbo] at hP hB
          simp only at hB
          obtain⟨rfl,v3,K3⟩:=hP
          have hin:=HIN2.out
          subst hB
          simp only at hin
          subst hin
          obtain⟨l1,l2,l3⟩:=leave2 k3 _ w3 (HK.out.trans K3)
          have l4:=World.cell?_setCell_same w3 _ (.iface 42 (.int .i64 k3)) l1
          simp only[bodyPostD]
          refine leaves_cons (f:=122) (args:=#[.pointer (some ⟨w.heap.size,0,none⟩)]) (by simp) (by simp[go_sem]) ?_
          refine(qj ⟨w.heap.size,0,none⟩ k3 _ [] _ l1 l2).mono ?_
          rintro e u' w'' ⟨rfl,rfl,rfl⟩
          simp[Leaves,settle,results,Tryz.results108,go_sem,l4]
          exact⟨l3,rfl⟩
        | ok qo =>
          obtain⟨q,o⟩:=qo
          rw[hbo] at hP hB
          simp only at hB
          obtain⟨rfl,v3,S3,K3⟩:=hP
          have hge:=X0 hbo
          have HS3:Hid (St w3 E2 w.heap.size q v3 o):=S3
          have HK3:Hid (Kept E2.S (.slice none 0 0) v3 w1 w3):=HK.out.trans K3
          clear S3 K3 HB2 hbo
          by_cases hg:zZ E2.zs p' 1=1
          · rw[if_pos hg] at hB
            rw[hg]
            have HB3:Hid (bs=.ok (q,o)):=hB.symm
            clear hB
            go_wp2
            go_roundg 0
            case measure=>omega
            case rel=>exact⟨true,q,v3,o,rfl,by simp,HB3,HS3,HK3⟩
          · rw[if_neg hg] at hB
            have hgz:(((zZ E2.zs p' 1:Nat):Int) == 1)=false:=by simp;omega
            rw[hgz]
            have HB3:Hid (xX E2.zs E2.most E2.win q o=bs):=hB
            clear hB hgz
            go_wp2
            go_roundg (8*E2.zs.length-q+1)
            case measure=>omega
            case rel=>exact⟨false,q,v3,o,rfl,by simp,HB3,HS3,HK3⟩
    | true =>
      have hB:=HB.out
      simp only[if_true] at hB
      have hin:=HIN2.out
      rw[hB] at hin
      simp only at hin
      have HIN3:Hid (_=r):=hin
      clear hin HIN2 hB HB
      go_wp2_with fail
      rw[<-hS2]
      refine(V7 E2 w.heap.size p' v' out' wr hz2 hl2 HS.out hm3).mono ?_
      rintro e w3 ⟨k3,hP⟩
      have hin:=HIN3.out
      by_cases hsu:Gu E2.zs p' out'=true
      rotate_left
      · rw[if_neg hsu] at hP hin
        subst hP hin
        obtain⟨l1,l2,l3⟩:=leave2 10 _ w3 (HK.out.trans (k3.weak _))
        have l4:=World.cell?_setCell_same w3 _ (.iface 42 (.int .i64 10)) l1
        simp only[bodyPostD]
        refine leaves_cons (f:=122) (args:=#[.pointer (some ⟨w.heap.size,0,none⟩)]) (by simp) (by simp[go_sem]) ?_
        refine(qj ⟨w.heap.size,0,none⟩ 10 _ [] _ l1 l2).mono ?_
        rintro e u' w'' ⟨rfl,rfl,rfl⟩
        simp[Leaves,settle,results,Tryz.results108,go_sem,l4]
        exact⟨l3,rfl⟩
      rw[if_pos hsu] at hP hin
      subst hin
      obtain⟨rfl,hold,held,s3⟩:=hP
      obtain⟨l1,l2,-⟩:=leave2 10 _ w3 (HK.out.trans (k3.weak _))
      have HO3:Hid (w3.ownsRow w.heap.size 5 1 v' out'.length (out'.map (Value.int .u8))):=k3.owns HS.out.own HS.out.rd.sv
      have hib:=HS.out.isB
      have HK3:Hid (Kept E2.S (.slice none 0 0) v' w1 w3):=HK.out.trans (k3.weak _)
      have c4:=s3.c4
      have c1:=s3.c1
      clear s3 k3 HIN3 HS
      obtain⟨u,HU⟩:=nn_ ((p'+7) / 8+4)
      rw[<-HU.out] at c1 ⊢
      rw[hS2] at c4 c1
      have hbw:Below w.heap.size w w3:=HK3.out.below hb1 (WzV _) (by omega) (by simp[Value.ownBlock])
      have HBW:Hid (Below w.heap.size w w3):=hbw
      clear hbw
      have hnv:some w.heap.size ≠ v'.ownBlock:=HK3.out.off hG1 (by simp[Value.ownBlock])
      have HOF:Hid ((w3.setCell ⟨w.heap.size,0,none⟩ .nilIface).ownsRow w.heap.size 5 1 v' out'.length (out'.map (Value.int .u8))):=uq (w:=w3) HO3.out w.heap.size 0 .nilIface hnv
      have HBF:Hid (Below w.heap.size w (w3.setCell ⟨w.heap.size,0,none⟩ .nilIface)):=Below.setCell (w:=w3) ⟨HBW.out.os,HBW.out.tape,HBW.out.output,HBW.out.size,HBW.out.block⟩ (WzV _) _
      have l4:=World.cell?_setCell_same w3 _ .nilIface l1
      clear hnv
      go_wp2
      go_region
      all_goals
        go_wp2
        simp only[bodyPostD]
        refine leaves_cons (f:=122) (args:=#[.pointer (some ⟨w.heap.size,0,none⟩)]) (by simp) (by simp[go_sem]) ?_
        refine(W4 ⟨w.heap.size,0,none⟩ _).mono ?_
        rintro e u' w'' ⟨rfl,rfl,rfl⟩
        simp[Leaves,settle,results,Tryz.results108,go_sem,l4]
        rw[<-HU.out]
        exact⟨⟨HBF.out.os,HBF.out.tape,HBF.out.output,HBF.out.size,HBF.out.block⟩,hib,_,rfl,HOF.out⟩
theorem inflate_some (ib io cap:Nat) (zs:List Int) (most:Int) (w:World) (hz:IsB zs) (hl:zs.length<=400000) (hc:zs.length<=cap) (hat:At w ib io zs) (hib:ib<w.heap.size) (hm2:most<=300000) (ht:TabsW w) :
  Calls prog 108 #[.slice (some ⟨ib,io,none⟩) zs.length cap,.int .i64 most] w (PostI w.heap.size w (inflOf zs (max most 0))):=by
 by_cases h:most<0
 ·exact D2 ib io cap zs most w hz hl hc hat hib h ht
 exact M9 ib io cap zs most w hz hl hc hat hib (by omega) hm2 ht
theorem TabsW.below {w w':World} (h:TabsW w) (hb:Below w.heap.size w w'):TabsW w':=by
 have hl:=h.lt;have c:∀ k i,k<=6->w'.cell? ⟨k,i,none⟩=w.cell? ⟨k,i,none⟩:=fun k i hk=>hb.cell (p:=⟨k,i,none⟩) (by show k<_;omega)
 exact⟨fun i hi=>(c 1 i (by omega)).trans (h.t2 i hi),fun i hi=>(c 2 i (by omega)).trans (h.t3 i hi),fun i hi=>(c 3 i (by omega)).trans (h.t4 i hi),fun i hi=>(c 4 i (by omega)).trans (h.t5 i hi),fun i hi=>(c 6 i (by omega)).trans (h.t6 i hi),Wqj hl hb.size⟩
theorem Defl.pos {zs z:List Int} (h:Defl zs z):0<z.length:=by
 rcases Nat.eq_zero_or_pos z.length with h0 | h0
 ·obtain rfl:z=[]:=List.eq_nil_of_length_eq_zero h0;have:=h.rd [] zs.length (by omega);rw[if_pos (Int.le_refl _)] at this;cases this
 exact h0
theorem TabsW.four {w:World} (h:TabsW w):jV w:=⟨h.t2,h.t3,h.t4,h.t5,by have:=h.lt;omega⟩
theorem zyx {m n n' e e':Nat} (h:Nof m n) (h':Nof m n') (hn:n'<=32768) (he:n=2 ^ e) (he':n'=2 ^ e'):¬ e<e':=by
 intro hlt;have h1:2 ^ (e+1)<=2 ^ e':=Wqk (by omega) (by omega);have h2:=Nat.two_pow_pos e;rw[Nat.pow_succ] at h1;obtain⟨a,_,_⟩:=h;obtain⟨_,b,_⟩:=h';omega
theorem zjV {m n n':Nat} (h:Nof m n) (h':Nof m n') (hn:n<=32768) (hn':n'<=32768):n=n':=by
 obtain⟨e,he⟩:=h.2.2;obtain⟨e',he'⟩:=h'.2.2;have a:=zyx h h' hn' he he';have b:=zyx h' h hn he' he;obtain rfl:e=e':=by omega
 rw[he,he']
def sqS (zs:List Int) (n:Nat) (s:Nat × List Nat × List Nat × Bs):Nat × List Nat × List Nat × Bs :=
 if uu (zq zs n s.2.1 s.2.2.1 s.1).1 (zq zs n s.2.1 s.2.2.1 s.1).2=true then
  (s.1+(zq zs n s.2.1 s.2.2.1 s.1).1,(vX zs n s.1 (s.2.1,s.2.2.1) (zq zs n s.2.1 s.2.2.1 s.1).1).1,(vX zs n s.1 (s.2.1,s.2.2.1) (zq zs n s.2.1 s.2.2.1 s.1).1).2,s.2.2.2.dup (zq zs n s.2.1 s.2.2.1 s.1).1 (zq zs n s.2.1 s.2.2.1 s.1).2)
 else (s.1+1,(vX zs n s.1 (s.2.1,s.2.2.1) 1).1,(vX zs n s.1 (s.2.1,s.2.2.1) 1).2,s.2.2.2.sym (zs.getD s.1 0).toNat)
def sqR (zs:List Int) (n:Nat):Nat->Nat × List Nat × List Nat × Bs->Bs
 | 0,s=>s.2.2.2
 | f+1,s=>if s.1<zs.length then sqR zs n f (sqS zs n s) else s.2.2.2
theorem qyv (zs:List Int) (n:Nat) (s:Nat × List Nat × List Nat × Bs):s.1+1<=(sqS zs n s).1:=by
 unfold sqS;split
 ·rename_i h;have:=Rv h;simp only;omega
 exact WzV _
theorem Wx (zs:List Int) (n:Nat):∀ (f:Nat) (s:Nat × List Nat × List Nat × Bs),zs.length<=s.1+f->sqR zs n (f+1) s=sqR zs n f s
 | 0,s,h=>by
  show (if s.1<zs.length then _ else _)=_
  rw[if_neg (by omega)];rfl
 | f+1,s,h=>by
  show (if s.1<zs.length then sqR zs n (f+1) (sqS zs n s) else s.2.2.2)=(if s.1<zs.length then sqR zs n f (sqS zs n s) else s.2.2.2)
  have:=qyv zs n s
  rw[Wx zs n f _ (by omega)]
def sq0 (n:Nat):Nat × List Nat × List Nat × Bs:=(0,WqV n 0,WqV n 0,((⟨0,0⟩:Bs).num 1 1).num 1 2)
theorem Sq.run {zs:List Int} {n p:Nat} {ch ah:List Nat} {b:Bs} (h:Sq zs n p ch ah b):sqR zs n zs.length (p,ch,ah,b)=sqR zs n zs.length (sq0 n):=by
 induction h using Sq.ind with
 | start=>rfl
 | @lit p ch ah b h hp hw ih =>
  rw[<-ih,<-Wx zs n zs.length (p,ch,ah,b) (by omega),sqR,if_pos hp];congr 1;unfold sqS;rw[if_neg (by simp only;rw[hw];decide)]
 | @dup p ch ah b h hp hw ih =>
  rw[<-ih,<-Wx zs n zs.length (p,ch,ah,b) (by omega),sqR,if_pos hp];congr 1;unfold sqS;rw[if_pos hw]
theorem Sq.one {zs:List Int} {n:Nat} {ch ah:List Nat} {b:Bs} (h:Sq zs n zs.length ch ah b):b=sqR zs n zs.length (sq0 n):=by
 rw[<-h.run];cases e:zs.length with
 | zero=>rfl
 | succ f=>rw[sqR,if_neg (by simp only;omega)]
theorem Ry {zs:List Int} {b b':Bs} (h:uj zs b) (h':uj zs b'):b=b':=by
 obtain⟨n,ch,ah,b0,_,h2,h3,h4,rfl⟩:=h;obtain⟨n',ch',ah',b0',_,h2',h3',h4',rfl⟩:=h';obtain rfl:=zjV h3 h3' h2 h2';rw[h4.one,h4'.one]
theorem Defl.one {zs z z':List Int} (h:Defl zs z) (h':Defl zs z') (hl:zs.length<65535):z.length=z'.length:=by
 obtain⟨b,h1,_,h2⟩:=h.short;obtain⟨b',h1',_,h2'⟩:=h'.short;obtain rfl:=Ry h1 h1';rw[h2 hl,h2' hl]
theorem Defl.le {zs z:List Int} (h:Defl zs z) (hl:zs.length<65535):z.length<=zs.length+11:=by
 obtain⟨b,h1,_,h2⟩:=h.short;have:=h2 hl;omega
end Go.Proofs.YtiaaekdpfpaigaaGreatDoor.Df
namespace Go.Proofs.YtiaaekdpfpaigaaGreatDoor.Dl
open Go.Proofs.Tryz
open Go.RowKit Plain
structure Sl (w:World) (a:Option Addr) (cap:Nat) (l:List Int):Prop where
 capl:l.length<=cap
 at_:0<l.length->∃ b off,a=some ⟨b,off,none⟩/\b<w.heap.size/\At w b off l
 nil:a=none->cap=0
theorem X4 {w:World} {b off:Nat} {l:List Int} (h:At w b off l) (j:Nat) (hj:j<=l.length):At w b (off+j) (l.drop j):=fun i hi=>by
 have hl:j+i<l.length:=by simp at hi;omega
 have:=h (j+i) hl;rw[Nat.add_assoc,this];simp[List.getD_eq_getElem?_getD]
theorem uQ (a b:Nat) (ha:a<9223372036854775808) (hb:b<9223372036854775808):bits .or .i64 (a:Int) (b:Int)=((a ||| b:Nat):Int):=by
 have hx:a ||| b<2 ^ 63:=Nat.or_lt_two_pow (by omega) (by omega)
 show IntKind.i64.wrap ((BitVec.ofInt 64 (a:Int) ||| BitVec.ofInt 64 (b:Int)).toNat:Int)=_;rw[BitVec.toNat_or,ofInt_u64 a (by omega),ofInt_u64 b (by omega),IntKind.wrap_i64];omega
theorem xJ (n:Int):wrap64 n=IntKind.i64.wrap n:=by rw[IntKind.wrap_i64];unfold wrap64;omega
theorem jJ {fn:Func} {p q r:Tmp} (h:fn.results=#[.tmp p,.tmp q,.tmp r]) (tmps:Array Value) (w:World) (x y z:Value) (hp:tmps.getD p undef=x) (hq:tmps.getD q undef=y) (hr:tmps.getD r undef=z) :
  (results fn tmps).run prog w=.ok (.tuple #[x,y,z]) w:=by
 have hp':tmps[p]?.getD undef=x:=by simpa using hp
 have hq':tmps[q]?.getD undef=y:=by simpa using hq
 have hr':tmps[r]?.getD undef=z:=by simpa using hr
 simp[results,h,hp',hq',hr']
theorem results127:f127.results=#[.tmp 2,.tmp 3,.tmp 4]:=by kernel_rfl
theorem U5:∀ x,x<256->bits .andNot .u8 ((x:Nat):Int) 128=((x % 128:Nat):Int):=by decide +kernel
theorem qq9 {j:Nat} (h:j<=5):2 ^ (7*j)<=34359738368:=Wqk (n:=2) (j:=35) (by omega) (by omega)
def zyj (w:World) (r:Option (Nat × List Int)) (ev:Ending) (w':World):Prop :=
 match r with
 | none=>ev=.returned (.tuple #[.int .i64 0,.slice none 0 0,.iface 42 (.int .i64 30)])/\∃ q,w'=w.drewN q
 | some (n,l)=>∃ a cap q,ev=.returned (.tuple #[.int .i64 n,.slice a l.length cap,.nilIface])/\w'=w.drewN q/\Sl w' a cap l/\n<34359738368
theorem GZ (b off cap:Nat) (bs:List Int) (w:World) (hz:IsB bs) (hl:bs.length<=400000) (h0:0<bs.length) (hat:At w b off bs) (hb:b<w.heap.size) (hcap:bs.length<=cap) :
  Calls prog 127 #[.slice (some ⟨b,off,none⟩) bs.length cap] w (zyj w (sz bs)):=by
 obtain⟨R,HR⟩:=nm_ (sz bs);rw[HR.out];obtain⟨L,HL⟩:=nn_ bs.length;rw[<-HL.out] at hl h0 hcap ⊢;obtain⟨m,HM⟩:=nn_ (min L 5);have hmin:(if (5:Int)<(L:Int) then (5:Int) else (L:Int))=(m:Int):=by rw[HM.out];split <;> omega
 have hm5:m<=5:=by rw[HM.out];omega
 have hmL:m<=L:=by rw[HM.out];omega
 have HAT:Hid _:=hat
 have HZ:Hid _:=hz;clear hat hz;go_enter func127,ntmps127;go_wp2_with fail
 go_loopg [2,13] m (fun k n i wr=>∃ j a:Nat,j<=m/\i=.int .i64 j/\n=.int .i64 a/\k=m-j/\wr=w/\a<2 ^ (7*j)/\Hid (U0 (5-j) j a (bs.drop j)=R));case atStart=>exact⟨0,0,by omega,rfl,rfl,rfl,rfl,by simp,HR.out⟩
 obtain⟨j,a,hj,rfl,rfl,hk,rfl,ha,HS⟩:=hrel;by_cases hjm:j<m;rotate_left
 ·obtain rfl:m=j:=by omega
  have hjZ:¬ (m:Int)<(m:Int):=by omega
  have HN:Hid (R=none):=by
   show _=_;rw[<-HS.out];have hm:=HM.out;have hl:=HL.out;rcases Nat.lt_or_ge 5 L with h | h
   ·rw[show 5-m=0 by omega,U0]
   rw[List.drop_of_length_le (by omega)];obtain⟨k,hk5⟩:∃ k,5-m=k ∨ 5-m=k+1:=⟨5-m,.inl rfl⟩;cases h5:5-m with
   | zero=>rfl
   | succ k=>rfl
  go_wp2_with fail
  exact bodyPost_ret (jJ results127 _ _ _ _ _ rfl rfl rfl) rfl (by rw[HN.out];exact⟨rfl,0,rfl⟩)
 have hjZ:(j:Int)<m:=by omega
 have hjb:j<bs.length:=by have:=HL.out;omega
 have hxb:=HZ.out _ (List.getElem_mem hjb);obtain⟨x,HX⟩:∃ x:Nat,Hid (bs[j]=(x:Int)):=⟨bs[j].toNat,by show _=_;omega⟩;have hx:x<256:=by have:=HX.out;omega
 have cx:=HAT.out j hjb;have hgx:bs.getD j 0=(x:Int):=by rw[List.getD_eq_getElem?_getD,List.getElem?_eq_getElem hjb,<-HX.out];rfl
 rw[hgx] at cx;have hdrop:bs.drop j=(x:Int) :: bs.drop (j+1):=by rw[List.drop_eq_getElem_cons hjb,HX.out]
 have hp:=qq9 (show j<=5 by omega);have hpx:x % 128*2 ^ (7*j)<=127*34359738368:=Wyw (by omega) hp;obtain⟨sh,HSH⟩:=nn_ (7*j);have hsh:(7:Int)*(j:Int)=(sh:Int):=by rw[HSH.out];push_cast;rfl
 obtain⟨y,HY⟩:=nn_ (x % 128);have hyw:wrap64 (y:Int)=(y:Int):=by rw[xJ,IntKind.wrap_i64];have:=HY.out;omega
 have han:bits .andNot .u8 (x:Int) 128=(y:Int):=by rw[HY.out];exact U5 x hx
 obtain⟨v,HV⟩:=nn_ (a+x % 128*2 ^ (7*j));have hv:v<2 ^ (7*(j+1)):=by
  rw[HV.out,show 7*(j+1)=7*j+7 by omega,Nat.pow_add];have:x % 128*2 ^ (7*j)+2 ^ (7*j)<=128*2 ^ (7*j):=by
   have h:(x % 128+1)*2 ^ (7*j)<=128*2 ^ (7*j):=Wyw (by omega) (WzV _);rw[WyX,Nat.one_mul] at h;exact h
  rw[Wyv (2 ^ (7*j))];omega
 have hor:bits .or .i64 (a:Int) (wrap64 ((y:Int)*2 ^ sh))=(v:Int):=by
  have e:(y:Int)*2 ^ sh=((x % 128*2 ^ (7*j):Nat):Int):=by rw[HY.out,HSH.out];push_cast;rfl
  rw[e,xJ,IntKind.wrap_i64];have e2:(((x % 128*2 ^ (7*j):Nat):Int)+9223372036854775808) % 18446744073709551616-9223372036854775808=((x % 128*2 ^ (7*j):Nat):Int):=by omega
  first
   | rw[e2,uQ _ _ (by omega) (by omega),Nat.or_comm,nat_join (7*j) _ _ (WyY _ _) ha,HV.out,Nat.add_comm]
   | (rw[show ∀ z:Int,z=((x % 128*2 ^ (7*j):Nat):Int)->z=((x % 128*2 ^ (7*j):Nat):Int) from fun _ h=>h];omega)
 rw[show 5-j=(4-j)+1 by omega,hdrop,U0] at HS;rw[show ((x:Int) % 128).toNat=x % 128 by omega,<-HV.out] at HS;clear hdrop hgx hxb hp hpx;by_cases hx8:x<128;rotate_left
 ·have hx8Z:¬ (x:Int)<128:=by omega
  rw[if_neg hx8Z] at HS;go_wp2_with fail
  go_roundg (m-(j+1));case measure=>omega
  case rel=>exact⟨j+1,v,by omega,by go_num,by first | rfl | go_num,rfl,rfl,hv,by rw[show 5-(j+1)=4-j by omega];exact HS.out⟩
 have hx8Z:(x:Int)<128:=by omega
 rw[if_pos hx8Z] at HS;by_cases hx0:x=0/\0<j
 ·obtain⟨rfl,hj0⟩:=hx0;have hj0Z:(0:Int)<j:=by omega
  rw[if_neg (by omega)] at HS;go_wp2_with fail
  exact bodyPost_ret (jJ results127 _ _ _ _ _ rfl rfl rfl) rfl (by rw[<-HS.out];exact⟨rfl,0,rfl⟩)
 rw[if_pos (by omega)] at HS;obtain⟨ad,HAD⟩:=nm_ (if cap=j+1 then some (⟨b,off,none⟩:Addr) else some ⟨b,off+(j+1),none⟩);have had:=HAD.out;have HSL:Hid (∀ q,Sl (wr.drewN q) ad (cap-(j+1)) (bs.drop (j+1))):=fun q =>
  ⟨by rw[Wz8,<-HL.out];omega,fun h=>by
   rw[Wz8,<-HL.out] at h
   rw[<-HAD.out,if_neg (by omega)]
   exact⟨b,off+(j+1),rfl,hb,X4 HAT.out (j+1) (by rw[<-HL.out];omega)⟩,fun h=>by rw[<-HAD.out] at h;split at h <;> cases h⟩
 have hlen:(bs.drop (j+1)).length=L-(j+1):=by rw[Wz8,<-HL.out]
 have hv5:v<34359738368:=Wqj hv (qq9 (by omega));by_cases hx00:x=0
 ·obtain rfl:j=0:=by omega
  subst hx00;obtain rfl:a=0:=by simpa using ha
  obtain rfl:y=0:=by rw[HY.out]
  obtain rfl:sh=0:=by rw[HSH.out]
  obtain rfl:v=0:=by rw[HV.out]
  have cx0:wr.cell? ⟨b,off,none⟩=some (.int .u8 0):=by simpa using cx
  clear cx;rw[Nat.zero_add] at had;have han0:bits .andNot .u8 0 128=0:=by decide +kernel
  have hor0:bits .or .i64 0 0=0:=by decide +kernel
  clear han hor hyw hsh;go_wp2_with fail
  go_quiet (fail);go_wp2;exact bodyPost_ret (jJ results127 _ _ _ _ _ rfl rfl rfl) rfl (by rw[<-HS.out];exact⟨_,_,nq,by rw[hlen];rfl,rfl,HSL.out nq,hv5⟩)
 have g1:¬ (x:Int)=0:=by omega
 go_wp2_with fail
 go_quiet (fail);go_wp2;exact bodyPost_ret (jJ results127 _ _ _ _ _ rfl rfl rfl) rfl (by rw[<-HS.out];exact⟨_,_,nq,by rw[hlen];rfl,rfl,HSL.out nq,hv5⟩)
end Go.Proofs.YtiaaekdpfpaigaaGreatDoor.Dl
namespace Go.Proofs.YtiaaekdpfpaigaaGreatDoor.Dl
open Go.Proofs.Tryz
open Go.RowKit Go.Maps
def Row (w:World) (b:Nat) (t:TypeId) (sz n cap:Nat) (f:Nat->Nat->Value):Prop :=
 ∃ cur:Array Value,w.heap[b]? = some (.cells cur t (0,0))/\cur.size=cap*sz/\n<=cap/\cap<=maxLen/\∀ s k,s<n->k<sz->cur[s*sz+k]? = some (f s k)
section
variable {w : World} {b : Nat} {t : TypeId} {sz n cap : Nat} {f : Nat → Nat → Value}
theorem Row.cell (h:Row w b t sz n cap f) {s k:Nat} (hs:s<n) (hk:k<sz):w.cell? ⟨b,s*sz+k,none⟩=some (f s k):=by
 obtain⟨cur,h1,h2,h3,h4,h5⟩:=h;simp[World.cell?,h1,h5 s k hs hk]
theorem Row.frozen (h:Row w b t sz n cap f) (i:Nat):w.frozen? ⟨b,i,none⟩=false:=by
 obtain⟨cur,h1,_⟩:=h;simp[World.frozen?,h1]
theorem Row.lt (h:Row w b t sz n cap f):b<w.heap.size:=by
 obtain⟨cur,h1,_⟩:=h;exact(Array.getElem?_eq_some_iff.1 h1).1
theorem Row.le (h:Row w b t sz n cap f):n<=cap/\cap<=maxLen:=by
 obtain⟨cur,h1,h2,h3,h4,h5⟩:=h;exact⟨h3,h4⟩
theorem Row.kept (h:Row w b t sz n cap f) {w':World} (hb:w'.heap[b]? = w.heap[b]?):Row w' b t sz n cap f:=by
 obtain⟨cur,h1,h2⟩:=h;exact⟨cur,hb.trans h1,h2⟩
theorem Row.congr (h:Row w b t sz n cap f) {f':Nat->Nat->Value} (hf:∀ s k,s<n->k<sz->f s k=f' s k):Row w b t sz n cap f':=by
 obtain⟨cur,h1,h2,h3,h4,h5⟩:=h;exact⟨cur,h1,h2,h3,h4,fun s k hs hk=>by rw[h5 s k hs hk,hf s k hs hk]⟩
theorem OX {sz s k s' k':Nat} (hk:k<sz) (hk':k'<sz) (h:s*sz+k=s'*sz+k'):s=s'/\k=k':=by
 have h1:(s*sz+k) / sz=s:=by rw[Wyv,WyK (by omega),Wyq hk];rfl
 have h2:(s'*sz+k') / sz=s':=by rw[Wyv,WyK (by omega),Wyq hk'];rfl
 have h3:s=s':=by rw[<-h1,<-h2,h]
 subst h3;exact⟨rfl,by omega⟩
theorem heap_set (w:World) (b i:Nat) (v:Value) {cur:Array Value} {t:TypeId} {fr:Nat × Nat} (h:w.heap[b]? = some (.cells cur t fr)):(w.setCell ⟨b,i,none⟩ v).heap[b]? = some (.cells (cur.setIfInBounds i v) t fr):=by
 obtain⟨hlt,hk⟩:=Array.getElem?_eq_some_iff.1 h;show (w.heap.modify b _)[b]? = _;rw[Array.getElem?_eq_getElem (by rw[Array.size_modify];exact hlt),Array.getElem_modify_self,hk];rfl
theorem Row.set (h:Row w b t sz n cap f) {s k:Nat} (hs:s<n) (hk:k<sz) (v:Value):Row (w.setCell ⟨b,s*sz+k,none⟩ v) b t sz n cap (fun s' k'=>if s'=s/\k'=k then v else f s' k'):=by
 obtain⟨cur,h1,h2,h3,h4,h5⟩:=h;refine⟨_,heap_set w b _ v h1,by simp[h2],h3,h4,fun s' k' hs' hk'=>?_⟩;by_cases hq:s'=s/\k'=k
 ·obtain⟨rfl,rfl⟩:=hq;have:=h5 s' k' hs' hk';obtain⟨hlt,_⟩:=Array.getElem?_eq_some_iff.1 this;simp[hlt]
 rw[Array.getElem?_setIfInBounds_ne (fun e=>hq (by obtain⟨a,b⟩:=OX hk hk' e;exact⟨a.symm,b.symm⟩)),h5 s' k' hs' hk'];simp[hq]
def uk (f:Nat->Nat->Value) (n sz:Nat):List Value:=(List.range (n*sz)).map fun i=>f (i / sz) (i % sz)
theorem NW (f:Nat->Nat->Value) (n sz:Nat) (h:0<sz):uk f (n+1) sz=uk f n sz++(List.range sz).map (f n):=by
 unfold uk;rw[WyX,Nat.one_mul,List.range_add,List.map_append,List.map_map];congr 1;refine List.map_congr_left fun k hk=>?_;have hk':=List.mem_range.1 hk;show f ((n*sz+k) / sz) ((n*sz+k) % sz)=f n k;rw[Wyv,WyK h,Wyq hk',WyV,WyJ hk'];rfl
theorem Row.owns (h:Row w b t sz n cap f) (hsz:0<sz) {B:Nat} (hB:B<=b):w.ownsRow B t sz (.slice (some ⟨b,0,none⟩) n cap) n (uk f n sz):=by
 obtain⟨cur,h1,h2,h3,h4,h5⟩:=h;refine⟨by simp[uk],.inr ⟨b,cap,cur,rfl,hB,h1,h3,h4,h2,?_⟩⟩;have hle:n*sz<=cap*sz:=WyW _ h3;refine List.ext_getElem? fun i=>?_;by_cases hi:i<n*sz
 ·rw[List.getElem?_take_of_lt hi];have e:i=(i / sz)*sz+i % sz:=by rw[Wyv];exact(Nat.div_add_mod i sz).symm
  have:=h5 (i / sz) (i % sz) ((Nat.div_lt_iff_lt_mul hsz).2 hi) (Nat.mod_lt _ hsz);rw[<-e] at this;rw[Array.getElem?_toList,this];simp[uk,hi]
 rw[List.getElem?_eq_none (by simp;omega),List.getElem?_eq_none (by simp[uk];omega)]
theorem Row.of_owns {B:Nat} {v:Value} {a:Option Addr} (hn:0<n) (h:w.ownsRow B t sz (.slice a n cap) n (uk f n sz)):∃ b,a=some ⟨b,0,none⟩/\B<=b/\Row w b t sz n cap f:=by
 obtain⟨_,⟨h1,h2⟩ | ⟨g,cap',cur,hv,h1,h2,h3,h4,h5,h6⟩⟩:=h
 ·omega
 simp only[Value.slice.injEq] at hv;obtain⟨rfl,_,rfl⟩:=hv;refine⟨g,rfl,h1,cur,h2,h5,h3,h4,fun s k hs hk=>?_⟩;have hlt:s*sz+k<n*sz:=by
  have:(s+1)*sz<=n*sz:=WyW _ (by omega);rw[WyX] at this;omega
 have e:(cur.toList.take (n*sz))[s*sz+k]? = (uk f n sz)[s*sz+k]? := by rw[h6]
 rw[List.getElem?_take_of_lt hlt,Array.getElem?_toList] at e;rw[e];simp only[uk,List.getElem?_map,List.getElem?_range hlt,Option.map_some];rw[show (s*sz+k) / sz=s by rw[Wyv,WyK (by omega),Wyq hk];rfl,show (s*sz+k) % sz=k by rw[Wyv,WyV,WyJ hk]]
end
structure Fn where
 (sb eb mb cs ce N K last mn:Nat)
 (lon en hd:Nat->Nat)
 (sh:Nat->Option Nat)
 (to nx by_ src:Nat->Nat)
 (m:Nat->Nat->Nat)
def shI:Option Nat->Int
 | none => -1
 | some p=>(p:Int)
def Fn.stv (F:Fn) (s k:Nat):Value:=match k with
 | 0=>.int .i32 (F.lon s)
 | 1=>.int .i32 (shI (F.sh s))
 | 2=>.int .i32 (F.en s)
 | _=>.int .i32 (F.hd s)
def Fn.edv (F:Fn) (e k:Nat):Value:=match k with
 | 0=>.int .i32 (F.to e)
 | 1=>.int .i32 (F.nx e)
 | _=>.int .u8 (F.by_ e)
def Fn.obj (F:Fn):Obj:=.cells #[.slice (some ⟨F.sb,0,none⟩) F.N F.cs,.slice (some ⟨F.eb,0,none⟩) F.K F.ce,.map (some F.mb),.int .i32 F.last] 196 (0,0)
def kyL (s x:Nat):Lit:=.int .u32 ((s*256+x:Nat):Int)
def Ru (w:World) (mb n:Nat) (m:Nat->Nat->Nat):Prop :=
 ∃ D:DataW Unit,w.ownsMap prog 50 (plainElem prog 21) mb n D/\∀ s x,s<16777216->x<256->D.atKey (kyL s x) (.lit (.int .i32 0))=.lit (.int .i32 (m s x))
structure Rep (B:Nat) (w:World) (g:Nat) (F:Fn):Prop where
 fin:w.heap[g]? = some F.obj
 st:Row w F.sb 198 4 F.N F.cs F.stv
 ed:Row w F.eb 202 3 F.K F.ce F.edv
 mp:Ru w F.mb F.mn F.m
 Bg:B<=g
 Bs:B<=F.sb
 Be:B<=F.eb
 Bm:B<=F.mb
 csl:F.cs<=300000
 mnl:F.mn<=F.K
theorem Rep.c0 {B:Nat} {w:World} {g:Nat} {F:Fn} (h:Rep B w g F):w.cell? ⟨g,0,none⟩=some (.slice (some ⟨F.sb,0,none⟩) F.N F.cs):=by simp[World.cell?,h.fin,Fn.obj]
theorem Rep.c1 {B:Nat} {w:World} {g:Nat} {F:Fn} (h:Rep B w g F):w.cell? ⟨g,1,none⟩=some (.slice (some ⟨F.eb,0,none⟩) F.K F.ce):=by simp[World.cell?,h.fin,Fn.obj]
theorem Rep.c2 {B:Nat} {w:World} {g:Nat} {F:Fn} (h:Rep B w g F):w.cell? ⟨g,2,none⟩=some (.map (some F.mb)):=by simp[World.cell?,h.fin,Fn.obj]
theorem Rep.c3 {B:Nat} {w:World} {g:Nat} {F:Fn} (h:Rep B w g F):w.cell? ⟨g,3,none⟩=some (.int .i32 F.last):=by simp[World.cell?,h.fin,Fn.obj]
theorem Rep.fz {B:Nat} {w:World} {g:Nat} {F:Fn} (h:Rep B w g F) (i:Nat):w.frozen? ⟨g,i,none⟩=false:=by simp[World.frozen?,h.fin,Fn.obj]
theorem Rep.glt {B:Nat} {w:World} {g:Nat} {F:Fn} (h:Rep B w g F):g<w.heap.size:=(Array.getElem?_eq_some_iff.1 h.fin).1
theorem Rep.ap {B:Nat} {w:World} {g:Nat} {F:Fn} (h:Rep B w g F):g ≠ F.sb/\g ≠ F.eb/\g ≠ F.mb/\F.sb ≠ F.eb/\F.sb ≠ F.mb/\F.eb ≠ F.mb:=by
 obtain⟨c1,a1,_⟩:=h.st;obtain⟨c2,a2,_⟩:=h.ed;obtain⟨D,⟨es,ck,a3,_⟩,_⟩:=h.mp;have a0:=h.fin;refine⟨fun e=>?_,fun e=>?_,fun e=>?_,fun e=>?_,fun e=>?_,fun e=>?_⟩
 ·rw[e,a1] at a0;simp[Fn.obj] at a0
 ·rw[e,a2] at a0;simp[Fn.obj] at a0
 ·rw[e,a3] at a0;simp[Fn.obj] at a0
 ·rw[e,a2] at a1;simp at a1
 ·rw[e,a3] at a1;simp at a1
 rw[e,a3] at a2;simp at a2
theorem Ru.lt {w:World} {mb n:Nat} {m:Nat->Nat->Nat} (h:Ru w mb n m):mb<w.heap.size:=by
 obtain⟨D,h1,_⟩:=h;exact h1.lt
theorem Ru.kept {w w':World} {mb n:Nat} {m:Nat->Nat->Nat} (h:Ru w mb n m) (hb:w'.heap[mb]? = w.heap[mb]?):Ru w' mb n m:=by
 obtain⟨D,⟨es,ck,a,r⟩,h2⟩:=h;exact⟨D,⟨es,ck,hb.trans a,r⟩,h2⟩
theorem Ru.mono {w:World} {mb n n':Nat} {m:Nat->Nat->Nat} (h:Ru w mb n m) (hn:n<=n'):Ru w mb n' m:=by
 obtain⟨D,h1,h2⟩:=h;exact⟨D,h1.mono hn,h2⟩
theorem Rep.kept {B:Nat} {w w':World} {g:Nat} {F:Fn} (h:Rep B w g F) (hb:∀ k,k<w.heap.size->B<=k->w'.heap[k]? = w.heap[k]?):Rep B w' g F :=
 ⟨(hb g h.glt h.Bg).trans h.fin,h.st.kept (hb _ h.st.lt h.Bs),h.ed.kept (hb _ h.ed.lt h.Be),h.mp.kept (hb _ h.mp.lt h.Bm),h.Bg,h.Bs,h.Be,h.Bm,h.csl,h.mnl⟩
theorem Rep.drewN {B:Nat} {w:World} {g:Nat} {F:Fn} (h:Rep B w g F) (n:Nat):Rep B (w.drewN n) g F:=h.kept (fun _ _ _=>rfl)
theorem zyk (s x:Nat) (hs:s<16777216) (hx:x<256):bits .or .u32 ((s:Int)*256) (x:Int)=((s*256+x:Nat):Int):=by
 have e:(s:Int)*256=((s*256:Nat):Int):=by omega
 rw[e,u32_or _ _ (by omega) (by omega) (by omega) (by omega)];rw[Wz0,Wz0,show (256:Nat)=2 ^ 8 from rfl,nat_join 8 (s*2 ^ 8) x (WyY _ _) hx]
theorem RZ (s x:Nat) (hs:s<16777216) (hx:x<256) (w:World):Calls prog 115 #[.int .i32 s,.int .u8 x] w fun e w'=>e=.returned (.int .u32 ((s*256+x:Nat):Int))/\w'=w:=by
 have h:=zyk s x hs hx;go_enter func115,ntmps115;go_wp2_with fail
 go_ret;exact⟨by show Ending.returned (.int .u32 ((s:Int)*256+x))=_;rw[show (s:Int)*256+x=((s*256+x:Nat):Int) by omega],rfl⟩
theorem BJ:Keyed prog 50:=int_keyed underlying50
theorem qyw (w:World):(zeroValue 21).run prog w=.ok (.int .i32 0) w:=by kernel_rfl
theorem zyv (s x:Nat) (hs:s<16777216) (hx:x<256):keyOf prog 50 (.int .u32 ((s*256+x:Nat):Int))=some (kyL s x) :=
 keyOf_int_mk underlying50 (WalkArith.wf_u32 ⟨by omega,by omega⟩)
theorem uV {P:Program} {ops:Array Oper} {o:Oper} {a:Act} {w:World} {K:Act->World->Prop} {Q:Exit->Act->World->Prop} {E:Prop} (hg:o.guard=none) (f:FuncId) (args:List Operand) (ts:Array TypeId) (vs:List Value) (R:Ending->World->Prop)
  (ho:o.op=.call { callee:=.value (.func f),args:=args.toArray,argTypes:=ts }) (hx:args.map a.eval=vs) (hent:∀ w:World,(callFunc f vs.toArray).run P w=.ok (.enter f vs.toArray) w)
  (hc:Calls P f vs.toArray w R) (h:∀ e w',R e w'->∃ r,e=.returned r/\K (a.put o.dst r) w') :
  if Region.wanted o (yielded ops a.tmps)=true then Oper.wp P o a w K Q else E:=by
 have hw:Region.wanted o (yielded ops a.tmps)=true:=by simp[Region.wanted,hg]
 rw[if_pos hw];unfold Oper.wp;simp only[execOp,ho,resolve,invoke,go_sem,List.map_toArray,hx,hent];simp[go_sem,hent,Oper.upon_enter];refine hc.mono ?_;intro e w' hr;obtain⟨r,rfl,hk⟩:=h e w' hr;exact hk
theorem step_exec {P:Program} {ops:Array Oper} {o:Oper} {a:Act} {w w':World} {K:Act->World->Prop} {Q:Exit->Act->World->Prop} {E:Prop} (hg:o.guard=none) (v:Value) (hr:(execOp a.eval o).run P w=.ok (.value v) w') (h:K (a.put o.dst v) w') :
  if Region.wanted o (yielded ops a.tmps)=true then Oper.wp P o a w K Q else E:=by
 have hw:Region.wanted o (yielded ops a.tmps)=true:=by simp[Region.wanted,hg]
 rw[if_pos hw];unfold Oper.wp;rw[hr];exact h
theorem takeL {P:Program} {md:Region.Mode} {Q:Exit->Act->World->Prop} {S:World->Prop} {l:List Oper} {i:Nat} {oi:Oper} {v:Value} {fuel:Nat} {listed:Array Bool} {a:Act} {w:World} (hi:l[i]? = some oi)
  (hs:Region.noSelect l.toArray=true) (hf:Region.free md l.toArray listed i=true) (hr:(Region.ready md l.toArray listed).contains i=true)
  (hQ:∀ c a w,Q (.panic c) (a.put oi.dst v) w->Q (.panic c) a w) (hy:YieldsIf P l.toArray S oi v a) (hS:S w)
  (h:wpAnyH P md l.toArray Q S fuel (listed.setIfInBounds i true) (a.put oi.dst v) w):wpAnyH P md l.toArray Q S (fuel+1) listed a w :=
 wpAnyH_take (by rw[List.getElem?_toArray];exact hi) hs hf hr hQ hy hS h
theorem consL {P:Program} {md:Region.Mode} {Q:Exit->Act->World->Prop} {S:World->Prop} {l:List Oper} {fuel:Nat} {listed:Array Bool} {a:Act} {w:World} {i:Nat} {o:Oper} {rs:List Nat} (ho:l[i]? = some o)
  (h:∀ K':Act->World->Prop,Shut (∀ a w,S w->(S w->wpAnyH P md l.toArray Q S fuel (listed.setIfInBounds i true) a w)->K' a w)->if Region.wanted o (yielded l.toArray a.tmps)=true then Oper.wp P o a w K' Q else K' (a.put o.dst undef) w)
  (hs:AllReadyH P md l.toArray Q S fuel listed a w rs):AllReadyH P md l.toArray Q S fuel listed a w (i :: rs):=AllReadyH.cons (by rw[List.getElem?_toArray];exact ho) h hs
theorem tZ {P:Program} {md:Region.Mode} {Q:Exit->Act->World->Prop} {S:World->Prop} {l:List Oper} {i:Nat} {oi:Oper} {v:Value} {fuel:Nat} {listed:Array Bool} {a:Act} {w:World} (hS:S w) (h:wpAnyH P md l.toArray Q S fuel (listed.setIfInBounds i true) (a.put oi.dst v) w) (hi:l[i]? = some oi:=by rfl) (hs:Region.noSelect l.toArray=true:=by kernel_rfl) (hf:Region.free md l.toArray listed i=true:=by kernel_rfl) (hr:(Region.ready md l.toArray listed).contains i=true:=by kernel_rfl) (hQ:∀ c a w,Q (.panic c) (a.put oi.dst v) w->Q (.panic c) a w:=by exact fun _ _ _ h=>h) (hg:Region.wanted oi (yielded l.toArray a.tmps)=true:=by rfl) (hy:∀ w',S w'->(execOp a.eval oi).run P w'=.ok (.value v) w':=by intro w' h;cases h;first | (go_simp;done) | (go_simp;rfl)):wpAnyH P md l.toArray Q S (fuel+1) listed a w:=takeL hi hs hf hr hQ (Or.inl ⟨hg,hy⟩) hS h
theorem tV {P:Program} {md:Region.Mode} {Q:Exit->Act->World->Prop} {S:World->Prop} {l:List Oper} {i:Nat} {oi:Oper} {v:Value} {fuel:Nat} {listed:Array Bool} {a:Act} {w:World} (hS:S w) (h:wpAnyH P md l.toArray Q S fuel (listed.setIfInBounds i true) (a.put oi.dst v) w) (hi:l[i]? = some oi:=by rfl) (hs:Region.noSelect l.toArray=true:=by kernel_rfl) (hf:Region.free md l.toArray listed i=true:=by kernel_rfl) (hr:(Region.ready md l.toArray listed).contains i=true:=by kernel_rfl) (hQ:∀ c a w,Q (.panic c) (a.put oi.dst v) w->Q (.panic c) a w:=by exact fun _ _ _ h=>h) (hg:Region.wanted oi (yielded l.toArray a.tmps)=true:=by rfl) (hy:∀ w',S w'->(execOp a.eval oi).run P w'=.ok (.value v) w':=by intro w' h;first | (go_simp;done) | (go_simp;rfl)):wpAnyH P md l.toArray Q S (fuel+1) listed a w:=takeL hi hs hf hr hQ (Or.inl ⟨hg,hy⟩) hS h
theorem tG {P:Program} {md:Region.Mode} {Q:Exit->Act->World->Prop} {S:World->Prop} {l:List Oper} {i:Nat} {oi:Oper} {v:Value} {fuel:Nat} {listed:Array Bool} {a:Act} {w:World} (hS:S w) (h:wpAnyH P md l.toArray Q S fuel (listed.setIfInBounds i true) (a.put oi.dst v) w) (hi:l[i]? = some oi:=by rfl) (hs:Region.noSelect l.toArray=true:=by kernel_rfl) (hf:Region.free md l.toArray listed i=true:=by kernel_rfl) (hr:(Region.ready md l.toArray listed).contains i=true:=by kernel_rfl) (hQ:∀ c a w,Q (.panic c) (a.put oi.dst v) w->Q (.panic c) a w:=by exact fun _ _ _ h=>h) (hg:Region.wanted oi (yielded l.toArray a.tmps)=true:=by kernel_rfl) (hy:∀ w',S w'->(execOp a.eval oi).run P w'=.ok (.value v) w':=by intro w' h;cases h;first | (go_simp;done) | (go_simp;rfl)):wpAnyH P md l.toArray Q S (fuel+1) listed a w:=takeL hi hs hf hr hQ (Or.inl ⟨hg,hy⟩) hS h
theorem tN {P:Program} {md:Region.Mode} {Q:Exit->Act->World->Prop} {S:World->Prop} {l:List Oper} {i:Nat} {oi:Oper} {fuel:Nat} {listed:Array Bool} {a:Act} {w:World} (hS:S w) (h:wpAnyH P md l.toArray Q S fuel (listed.setIfInBounds i true) (a.put oi.dst undef) w) (hi:l[i]? = some oi:=by rfl) (hs:Region.noSelect l.toArray=true:=by kernel_rfl) (hf:Region.free md l.toArray listed i=true:=by kernel_rfl) (hr:(Region.ready md l.toArray listed).contains i=true:=by kernel_rfl) (hQ:∀ c a w,Q (.panic c) (a.put oi.dst undef) w->Q (.panic c) a w:=by exact fun _ _ _ h=>h) (hg:Region.wanted oi (yielded l.toArray a.tmps)=false:=by kernel_rfl):wpAnyH P md l.toArray Q S (fuel+1) listed a w:=takeL hi hs hf hr hQ (Or.inr ⟨hg,rfl⟩) hS h
theorem tW {P:Program} {md:Region.Mode} {Q:Exit->Act->World->Prop} {S:World->Prop} {l:List Oper} {i:Nat} {oi:Oper} {v:Value} {fuel:Nat} {listed:Array Bool} {a:Act} {w:World} (hS:S w) (hi:l[i]? = some oi) (hy:YieldsIf P l.toArray S oi v a) (h:wpAnyH P md l.toArray Q S fuel (listed.setIfInBounds i true) (a.put oi.dst v) w) (hs:Region.noSelect l.toArray=true:=by kernel_rfl) (hf:Region.free md l.toArray listed i=true:=by kernel_rfl) (hr:(Region.ready md l.toArray listed).contains i=true:=by kernel_rfl) (hQ:∀ c a w,Q (.panic c) (a.put oi.dst v) w->Q (.panic c) a w:=by exact fun _ _ _ h=>h):wpAnyH P md l.toArray Q S (fuel+1) listed a w:=takeL hi hs hf hr hQ hy hS h
theorem RQ (v1 v2:Value) (w:World):(callFunc 115 #[v1,v2]).run prog w=.ok (.enter 115 #[v1,v2]) w:=by kernel_rfl
set_option maxRecDepth 10000 in
theorem Vz {B g:Nat} {F:Fn} (s x:Nat) (hs:s<16777216) (hx:x<256) (w:World) (hR:Rep B w g F):Calls prog 102 #[.pointer (some ⟨g,0,none⟩),.int .i32 s,.int .u8 x] w fun e w'=>e=.returned (.int .i32 (F.m s x))/\∃ q,w'=w.drewN q:=by
 have c2:=hR.c2;obtain⟨D,hD,hat⟩:=hR.mp;obtain⟨ky,HKY⟩:=nn_ ((s*256+x:Nat):Int);have HK:Hid _:=fun w'=>RZ s x hs hx w';have hlk:∀ w':World,w'.heap=w.heap->(Instr.lookup 194 (.map (some F.mb)) (.int .u32 ky) false).run prog w'=.ok (.int .i32 (F.m s x)) w':=fun w' hw'=>by
  have hD':w'.ownsMap prog 50 (plainElem prog 21) F.mb F.mn D:=by
   obtain⟨es,ck,e1,e2⟩:=hD;exact⟨es,ck,by rw[hw'];exact e1,e2⟩
  obtain⟨c,h1,h2,_⟩:=hD'.lookup_int BJ underlying194 underlying21 (qyw _) (zyv s x hs hx);rw[hat s x hs hx] at h2;cases h2
  rw[HKY.out];exact h1
 rw[<-HKY.out] at HK;have hl1:=hlk w.drew rfl;clear hlk hat hD;go_enter func102,ntmps102;go_wp2_with fail
 refine wp_region_held_drew (S:=fun w'=>w'.cell? ⟨g,2,none⟩=some (.map (some F.mb))) (by kernel_rfl) (by exact c2) (fun hHeld=>?_);refine tV (i:=0) hHeld ?_;try simp only[Act.put,sL]
 refine tV (i:=1) hHeld ?_;try simp only[Act.put,sL]
 refine tV (i:=2) hHeld ?_;try simp only[Act.put,sL]
 refine tV (i:=3) hHeld ?_;try simp only[Act.put,sL]
 refine tV (i:=4) hHeld ?_;try simp only[Act.put,sL]
 refine tV (i:=5) hHeld ?_;try simp only[Act.put,sL]
 refine wpAnyH_ready (rs:=[6]) (by kernel_rfl) (by simp) ?_;refine consL rfl (fun KK hKK=>?_) AllReadyH.nil;refine uV (by rfl) 115 [.tmp 11,.tmp 12] _ [.int .i32 s,.int .u8 x] _ (by rfl) (by rfl) (RQ _ _) (HK.out _) ?_;rintro e w1 ⟨rfl,rfl⟩;refine⟨_,rfl,?_⟩;refine hKK.out _ _ hHeld (fun hHeld2=>?_);clear hKK KK;try simp only[Act.put,sL]
 refine wpAnyH_ready (rs:=[7]) (by kernel_rfl) (by simp) ?_;refine consL rfl (fun KK hKK=>?_) AllReadyH.nil;refine step_exec (by rfl) (.int .i32 (F.m s x)) (w':=w.drew) (by simp[execOp,Act.eval,hl1,Result.andThen]) ?_;refine hKK.out _ _ hHeld (fun hHeld2=>?_);clear hKK KK;try simp only[Act.put,sL]
 refine tV (i:=8) hHeld ?_;try simp only[Act.put,sL]
 refine wpAnyH_done (by kernel_rfl) ?_ _;go_wp2_with fail
 go_ret;exact⟨rfl,1,rfl⟩
end Go.Proofs.YtiaaekdpfpaigaaGreatDoor.Dl
