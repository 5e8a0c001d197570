import Derived.Test.YtgliaiemkfopeaaGreatDoorMn25
import Derived.Test.YtgliaiemkfopeaaGreatDoorMn23
set_option linter.unusedSimpArgs false
set_option linter.unusedVariables false
set_option maxRecDepth 20000
set_option maxHeartbeats 4000000
namespace Go.Proofs.YtgliaiemkfopeaaGreatDoor.K
open Go.RowKit
theorem Tryz.results30:Tryz.f30.results=#[.tmp 4]:=by kernel_rfl
theorem pre_iff (l p:Str):Lib.hasPrefix l p=decide (l.take p.length=p):=by
 rw[Lib.hasPrefix,Bool.eq_iff_iff,List.isPrefixOf_iff_prefix,List.prefix_iff_eq_take,decide_eq_true_iff]
 exact eq_comm
def ls1 (rs:List Rx) (p:Str) (x:Str):Option Rx:=if Lib.hasPrefix x p then (match rdD rs x with | .ok id=>some (x,(id,[])) | .error _=>none) else none
def lsD (rs:List Rx) (p:Str):List Rx:=rs.filterMap fun r=>ls1 rs p r.1
theorem bd88i (A:ByteArray) (id:List Int) (hi:id.length=20) (w:World):(Instr.build 88 #[(0,.string A),(1,.agg (row .u8 id).toArray)]).run Tryz.prog w=.ok (.agg (.string A :: (row .u8 id++[sV []])).toArray) w:=by
 obtain⟨c0,c1,c2,c3,c4,c5,c6,c7,c8,c9,c10,c11,c12,c13,c14,c15,c16,c17,c18,c19,rfl⟩:=yZ id hi
 kernel_rfl
theorem rd_ok {rs:List Rx} (h:∀ x ∈ rs,Z9 x) {x:Str} {id:List Int} (hr:rdD rs x=.ok id):IdW id:=by
 unfold rdD rdF at hr
 split at hr
 ·split at hr
  ·cases hr
  ·split at hr
   ·cases hr
   ·rename_i k hk
    cases hr
    exact(fd_ok h hk).1
 ·cases hr
theorem listD_any {G Q:Nat} {v1 v2:Value} {rs:List Rx} {ls:List Ex} (p:Str) (hp9:p.length<=1000) (w:World) (h:Dq G w Q v1 v2 rs ls) :
  Calls Tryz.prog 30 #[.pointer (some ⟨Q,0,none⟩),sV p] w fun e w'=>∃ v,e=.returned v/\Bx qX 22 88 w w' w.heap.size v (lsD rs p):=by
 obtain⟨r,HR⟩:=nm_ w.heap.size
 have hQr:Q<r:=by rw[<-HR.out];exact z7 h.box
 obtain⟨a,c,e2,hP,hpa,hc1⟩:=h.px1
 subst e2
 obtain⟨N,HN⟩:=nm_ rs.length
 have hN9:N<=100000:=by rw[<-HN.out];exact h.few.1
 have HST:Hid (∀ W,Below r w W->Dq G W Q (.slice a rs.length c) v2 rs ls/\Px qX 22 dR W a c rs/\W.cell? ⟨Q,0,none⟩=some (.slice a N c)):=fun W hW=>⟨h.below (by rw[HR.out];exact hW),hP.below (by rw[HR.out];exact hW),by rw[<-HN.out];exact(hW.cell (p:=⟨Q,0,none⟩) hQr).trans hc1⟩
 have HB0:Hid (Bx qX 22 88 w w r (.slice none 0 0) []):=hid (uz 88 w r (by rw[HR.out];exact Nat.le_refl _))
 have HOK:=hid h.ok1
 have HP9:=hid hp9
 rw[HR.out]
 clear h hP hpa hc1
 unfold sV
 obtain⟨PB',HPB⟩:=nm_ (⟨p.toArray⟩:ByteArray)
 rw[HPB.out]
 go_enter Tryz.func30,Tryz.ntmps30
 go_wp2
 go_loopg [5,6] N (fun q ov iv wr=>∃ (i:Nat) (u:Value) (out:List Rx),iv=.int .i64 i/\u=ov/\q=N-i/\i<=N/\out.length<=i/\Hid (Bx qX 22 88 w wr r u out)/\Hid (out=(rs.take i).filterMap fun r=>ls1 rs p r.1))
 case atStart=>exact⟨0,_,[],rfl,rfl,rfl,Nat.zero_le _,by simp,HB0,hid (by simp)⟩
 case round =>
  obtain⟨i,u,out,rfl,hu,hq,hin,hol,HB,HO⟩:=hrel
  subst hu
  obtain⟨k1,k2,k3⟩:=HST.out wr HB.out.below
  obtain⟨ua,uc,hus⟩:=zZ HB.out.own
  obtain⟨un,hun⟩:∃ n,out.length=n:=⟨_,rfl⟩
  rw[hun] at hus
  subst hus
  by_cases hlt:i<N
  ·have hlti:(i:Int)<(N:Int):=by omega
   obtain⟨b,off,hae,_,e3⟩:=k2.at_ (by rw[HN.out];omega)
   subst hae
   obtain⟨y,hy⟩:∃ y,(rs.getD i dR).1=y:=⟨_,rfl⟩
   have hyr:Z9 (rs.getD i dR):=HOK.out _ (zK rs i dR (by rw[HN.out];exact hlt))
   have hy60:y.length<=60:=by rw[<-hy];exact hyr.1
   have k7:wr.cell? ⟨b,off+i*22,none⟩=some (sV y):=by
    have:=e3 i (by rw[HN.out];exact hlt) 0 (sV y) (by rw[<-hy];rfl)
    simpa using this
   have HTK:Hid ((rs.take (i+1)).filterMap (fun r=>ls1 rs p r.1)=(rs.take i).filterMap (fun r=>ls1 rs p r.1)++(ls1 rs p y).toList):=hid (by
    rw[qj dR rs i (by rw[HN.out];exact hlt),List.filterMap_append,<-hy]
    congr 1
    first | done | (simp only[List.filterMap_cons,List.filterMap_nil];cases ls1 rs p (rs.getD i dR).1 <;> rfl))
   have hsz:(⟨y.toArray⟩:ByteArray).size=y.length:=Nm.txt_len y
   have hsz2:(⟨p.toArray⟩:ByteArray).size=p.length:=Nm.txt_len p
   have HSL:Hid (p.length<=y.length->∀ W:World,(Instr.slice 9 (.string ⟨y.toArray⟩) none (some (.int .i64 (p.length:Int))) none).run Tryz.prog W=.ok (.string ⟨(y.take p.length).toArray⟩) W):=fun hle W=>Nm.slc_to y p.length hle W
   have HRD:Hid (Calls Tryz.prog 32 #[.pointer (some ⟨Q,0,none⟩),.string ⟨y.toArray⟩] wr fun e w'=>e=.returned (.tuple #[.agg (row .u8 (oI (rdD rs y))).toArray,.int .i64 (oN (rdD rs y))])/\Below wr.heap.size wr w'):=hid (readD_any y wr k1)
   obtain⟨Y,HY⟩:=nm_ (⟨y.toArray⟩:ByteArray)
   obtain⟨yl,HYL⟩:=nm_ y.length
   obtain⟨pl,HPL⟩:=nm_ p.length
   rw[HYL.out] at hsz HSL
   rw[HPL.out] at hsz2 HSL
   rw[HY.out] at hsz HSL HRD
   rw[HPB.out] at hsz2
   unfold sV at k7
   rw[HY.out] at k7
   have hyl9:yl<=60:=by rw[<-HYL.out];exact hy60
   have hpl9:pl<=1000:=by rw[<-HPL.out];exact hp9
   clear k1 k2 e3 hy hun
   have HSKIP:Hid (Lib.hasPrefix y p=false->(rs.take (i+1)).filterMap (fun r=>ls1 rs p r.1)=out):=fun hf=>by
    rw[HTK.out,HO.out]
    unfold ls1
    simp[hf]
   by_cases hll:yl<pl
   ·have hlli:(yl:Int)<(pl:Int):=by omega
    have HF:Hid (Lib.hasPrefix y p=false):=hid (by
     rw[pre_iff]
     simp only[decide_eq_false_iff_not]
     intro e
     have:=congrArg List.length e
     rw[List.length_take,HYL.out,HPL.out] at this
     omega)
    go_wp2
    go_roundg (N-(i+1))
    case measure=>omega
    case rel=>exact⟨i+1,_,out,by go_num,rfl,rfl,by omega,by omega,HB,hid (HSKIP.out HF.out).symm⟩
   ·have hlli:¬ (yl:Int)<(pl:Int):=by omega
    have hsl:=HSL.out (by omega)
    obtain⟨YT,HYT⟩:=nm_ (⟨(y.take pl).toArray⟩:ByteArray)
    rw[HYT.out] at hsl
    by_cases hpre:y.take p.length=p
    ·have heq:(YT == PB')=true:=by rw[beq_toListBytes,<-HYT.out,<-HPB.out,Lib.toList_data,Lib.toList_data,<-HPL.out,hpre];exact beq_self_eq_true _
     have heq2:YT=PB':=by rw[<-HYT.out,<-HPB.out,<-HPL.out,hpre]
     have HPT:Hid (Lib.hasPrefix y p=true):=hid (by rw[pre_iff];simpa using hpre)
     subst heq2
     have hrd:=HRD.out
     cases hR:rdD rs y with
     | error k =>
      obtain⟨Z,HZ⟩:=ri zQ rfl
      have hkn:k ≠ 0:=by
       unfold rdD rdF at hR
       split at hR
       ·split at hR
        ·cases hR;decide
        ·split at hR
         ·cases hR;decide
         ·cases hR
       ·cases hR;decide
      rw[hR] at hrd
      simp only[oI,oN,HZ.out.e] at hrd
      have hi0:=i86 HZ.out.i
      have HSK:Hid ((rs.take (i+1)).filterMap (fun r=>ls1 rs p r.1)=out):=hid (by
       rw[HTK.out,HO.out]
       unfold ls1
       simp[HPT.out,hR])
      have HBW:Hid (∀ W,Below wr.heap.size wr W->Bx qX 22 88 w (W.alloc (.cells Z 86)) r (.slice ua un uc) out):=fun W hW=>(HB.out.carry hW).alloc _
      clear hR HRD HSKIP
      go_wp2_with (first
       | (go_at_call 32;refine hrd.mono ?_;rintro e w1 ⟨rfl,hb⟩;have HB1:=hid (HBW.out w1 hb);clear hb hrd)
       | (refine zq rfl 86 (.tmp 8) (.tmp 44) rfl _ Z rfl rfl hi0 HZ.out.z HZ.out.o ?_;go_frame))
      go_roundg (N-(i+1))
      case measure=>omega
      case rel=>exact⟨i+1,_,out,by go_num,rfl,rfl,by omega,by omega,HB1,hid HSK.out.symm⟩
     | ok id =>
      have hid':IdW id:=rd_ok HOK.out hR
      obtain⟨I,HI⟩:=ri id hid'.1
      rw[hR] at hrd
      simp only[oI,oN,HI.out.e] at hrd
      have hi0:=i86 HI.out.i
      have hxo:Z9 (y,(id,[])):=⟨by rw[HYL.out];omega,hid',by simp⟩
      obtain⟨E,hE⟩:∃ E,qX (y,(id,[]))=E:=⟨_,rfl⟩
      have HBD:Hid (∀ W:World,(Instr.build 88 #[(0,.string Y),(1,.agg I)]).run Tryz.prog W=.ok (.agg E.toArray) W):=fun W=>by rw[<-hE,<-HY.out,<-HI.out.e];exact bd88i _ id hid'.1 W
      have HBS:Hid (∀ W:World,(Instr.buildSlice 28 1 #[(0,.agg E.toArray)]).run Tryz.prog W=.ok (.slice (some ⟨W.heap.size,0,none⟩) 1 1) (W.alloc (.cells E.toArray 88))):=fun W=>by rw[<-hE];exact run_bs28 _ hxo W
      have HPO:Hid (∀ W:World,Px qX 22 dR (W.alloc (.cells E.toArray 88)) (some ⟨W.heap.size,0,none⟩) 1 [(y,(id,[]))]):=fun W=>by
       have:=yu (enc:=qX) (d:=dR) W (y,(id,[])) 88
       rw[xx hxo,hE] at this
       exact this
      have HXL:Hid ((qX (y,(id,[]))).length=22):=hid (xx hxo)
      have HSN:Hid ((rs.take (i+1)).filterMap (fun r=>ls1 rs p r.1)=out++[(y,(id,[]))]):=hid (by
       rw[HTK.out,HO.out]
       unfold ls1
       simp[HPT.out,hR])
      have HBW:Hid (∀ W,Below wr.heap.size wr W->∃ V K,W.alloc (.cells I 86)=V/\W.heap.size=K/\V.heap[K]? = some (.cells I 86)/\Bx qX 22 88 w (V.alloc (.cells E.toArray 88)) r (.slice ua un uc) out):=fun W hW=>⟨_,_,rfl,rfl,heap_alloc_new _ _,((HB.out.carry hW).alloc _).alloc _⟩
      have HLN:Hid (out.length + [((y,(id,[])):Rx)].length<=1000000000):=hid (by simp;omega)
      clear hR HRD HSKIP hE
      go_wp2_with (first
       | (go_at_call 32;refine hrd.mono ?_;rintro e w1 ⟨rfl,hb⟩;obtain⟨V,K,hV,hK,hVK,hbx⟩:=HBW.out w1 hb;have HV:=hid hV;have HK:=hid hK;have HVK:=hid hVK;have HBX:=hid hbx;clear hb hrd hV hK hVK hbx)
       | (refine zq rfl 86 (.tmp 8) (.tmp 44) rfl _ I rfl rfl hi0 HI.out.z HI.out.o ?_;rw[HV.out,HK.out];go_frame)
       | (refine zu rfl 86 (.tmp 8) rfl _ I 86 (0,0) _ rfl HVK.out Tryz.underlying86 rfl hi0 ?_;go_frame)
       | (refine z8 rfl (.agg E.toArray) (xJ 88 0 1 (.tmp 49) (.tmp 50) rfl (.string Y) (.agg I) _ rfl rfl (HBD.out _)) ?_;go_frame)
       | (refine z8 rfl _ (zY 28 (.tmp 51) rfl (.agg E.toArray) _ rfl (HBS.out _)) ?_;go_frame)
       | (at_builtin;refine zj (enc:=qX) (k:=22) (d:=dR) rfl _ _ 28 88 und28 QQ z88 (by decide) (by decide) jX rfl r (.slice ua un uc) out rfl HBX.out (some ⟨V.heap.size,0,none⟩) 1 [(y,(id,[]))] rfl (HPO.out V) (fun z hz=>by rw[List.mem_singleton.1 hz];exact HXL.out) HLN.out ?_;intro v3 w3 hb3 hg3 hm3;have HB3:=hid hb3;clear hb3 hg3 hm3))
      go_roundg (N-(i+1))
      case measure=>omega
      case rel=>exact⟨i+1,_,out++[(y,(id,[]))],by go_num,rfl,rfl,by omega,by simp;omega,HB3,hid HSN.out.symm⟩
    ·have hne:(YT.toList == PB'.toList)=false:=by
      rw[<-HYT.out,<-HPB.out,Lib.toList_data,Lib.toList_data,<-HPL.out]
      simpa using hpre
     have hne2:(YT == PB')=false:=by rw[beq_toListBytes];exact hne
     have HF:Hid (Lib.hasPrefix y p=false):=hid (by rw[pre_iff];simpa using hpre)
     go_wp2
     go_roundg (N-(i+1))
     case measure=>omega
     case rel=>exact⟨i+1,_,out,by go_num,rfl,rfl,by omega,by omega,HB,hid (HSKIP.out HF.out).symm⟩
  ·have hlti:¬ (i:Int)<(N:Int):=by omega
   obtain rfl:i=N:=by omega
   have HE:Hid (out=lsD rs p):=hid (by rw[HO.out,List.take_of_length_le (by rw[HN.out];exact Nat.le_refl _)];rfl)
   have HF:Hid (∃ v,Ending.returned (.slice ua un uc)=.returned v/\Bx qX 22 88 w wr r v (lsD rs p)):=hid ⟨_,rfl,by rw[<-HE.out];exact HB.out⟩
   clear k1 k2 hun
   go_wp2
   exact bodyPost_ret (results_tmp Tryz.results30 _ _ _) rfl HF.out
theorem Tryz.results28:Tryz.f28.results=#[.tmp 4]:=by kernel_rfl
theorem own_box {w:World} {B e k n:Nat} {v:Value} {xs:List Value} (h:w.ownsRow B e k v n xs) (h0:0<n):∃ g cap cur,v=.slice (some ⟨g,0,none⟩) n cap/\w.heap[g]? = some (.cells cur e (0,0)):=by
 obtain⟨_,⟨rfl,rfl⟩ | ⟨g,cap,cur,rfl,_,hh,_⟩⟩:=h
 ·omega
 ·exact⟨g,cap,cur,rfl,hh⟩
structure QsL (gb gi mb mi gj mj:Nat) (A:ByteArray) (I:List Value) (W:World):Prop where
 c1:W.cell? ⟨gb,gi,none⟩=some (.string A)
 c2:W.cell? ⟨mb,mi,none⟩=some (.string A)
 r1:W.rangeAt gb gj I
 r2:W.rangeAt mb mj I
def ZK (va:Option Addr) (ty:TypeId) (w wr:World) (q:Nat):Prop := ∀ g cur,va=some ⟨g,0,none⟩->w.heap[g]? = some (.cells cur ty (0,0))->∃ cur',wr.heap[g]? = some (.cells cur' ty (0,0))/\∀ j,q<=j->cur'[j]? = cur[j]?
theorem ZK.drew {va:Option Addr} {ty:TypeId} {w wr:World} {q:Nat} (h:ZK va ty w wr q):ZK va ty w wr.drew q:=h
theorem ZK.set {va:Option Addr} {ty:TypeId} {w wr:World} {q q':Nat} (h:ZK va ty w wr q) {g j:Nat} (hg:va=some ⟨g,0,none⟩) (hj:j<q') (hq:q<=q') (v:Value):ZK va ty w (wr.setCell ⟨g,j,none⟩ v) q':=fun g' cur e hc=>by
 rw[hg] at e
 injection e with e
 injection e with e _ _
 subst e
 obtain⟨cur',h1,h2⟩:=h g cur hg hc
 refine⟨_,qy h1 j v,fun i hi=>?_⟩
 rw[Array.getElem?_setIfInBounds,if_neg (by omega)]
 exact h2 i (by omega)
theorem ZK.range {va:Option Addr} {ty:TypeId} {w wr:World} {q:Nat} (h:ZK va ty w wr q) {g:Nat} {cur:Array Value} (hg:va=some ⟨g,0,none⟩) (hc:w.heap[g]? = some (.cells cur ty (0,0))) {o:Nat} {xs:List Value} (hq:q<=o) (hx:w.rangeAt g o xs):wr.rangeAt g o xs:=fun j v hv=>by
 obtain⟨cur',h1,h2⟩:=h g cur hg hc
 have h3:=hx j v hv
 rw[cell_of_row _ _ _ _ _ _ hc] at h3
 rw[cell_of_row _ _ _ _ _ _ h1,h2 _ (by omega)]
 exact h3
theorem XK (t:TypeId) (ht:Tryz.prog.underlying t=some (.array 20 5)) (x:List Int) (hx:x.length=20) (W:World):(Op.equalIn 10000 t (.agg (row .u8 x).toArray) (.agg (row .u8 x).toArray)).run Tryz.prog W=.ok true W:=by
 rw[eqId t ht x x hx hx W]
 simp
theorem sameList_any (B:Nat) (v:Value) (ms:List Rx) (a2:Option Addr) (c2:Nat) (w:World) (hB:w.ownsRow B 149 21 v ms.length ((ms.map fun r=>((r.1,r.2.1):Nx)).flatMap j7)) (hP:Px qX 22 dR w a2 c2 ms) (hne:∀ p:Addr,a2=some p->v.ownBlock ≠ some p.block/\p.block<w.heap.size) (hok:∀ x ∈ ms,Z9 x) (hn:ms.length<=1000000) :
  Calls Tryz.prog 28 #[v,.slice a2 ms.length c2] w fun e w'=>e=.returned (.bool true)/\Al (fun i=>v.ownBlock=some i) w w':=by
 obtain⟨N,HN⟩:=nm_ ms.length
 have hN9:N<=1000000:=by rw[<-HN.out];exact hn
 have hB':w.ownsRow B 149 21 v (ms.map fun r=>((r.1,r.2.1):Nx)).length ((ms.map fun r=>((r.1,r.2.1):Nx)).flatMap j7):=by rw[List.length_map];exact hB
 obtain⟨va,vc,hv⟩:=zZ hB
 subst hv
 rw[HN.out]
 have HP:=hid hP
 have HB:=hid hB
 have HB':=hid hB'
 have HOK:=hid hok
 have HNE:=hid hne
 clear hP hB hok hne hn hB'
 go_enter Tryz.func28,Tryz.ntmps28
 go_wp2
 go_loopg [5] N (fun q iv wr=>∃ i:Nat,iv=.int .i64 i/\q=N-i/\i<=N/\Hid (Al (fun i=>(Value.slice va N vc).ownBlock=some i) w wr)/\Hid (ZK va 149 w wr (i*21)))
 case atStart=>exact⟨0,rfl,rfl,Nat.zero_le _,hid (Al.refl _ _),hid (fun g cur _ h=>⟨cur,h,fun _ _=>rfl⟩)⟩
 case round =>
  obtain⟨i,rfl,hq,hin,HAL,HRE⟩:=hrel
  by_cases hlt:i<N
  ·have hlti:(i:Int)<(N:Int):=by omega
   obtain⟨gb,cap,cur,hv,hcur⟩:=own_box HB.out (by rw[HN.out];omega)
   injection hv with hva hv2 hv3
   clear hv2 hv3
   subst hva
   obtain⟨x,hx⟩:∃ x,ms.getD i dR=x:=⟨_,rfl⟩
   have hxo:Z9 x:=by rw[<-hx];exact HOK.out _ (zK ms i dR (by rw[HN.out];exact hlt))
   obtain⟨mb,mo,hma,_,_⟩:=HP.out.at_ (by rw[HN.out];omega)
   subst hma
   have hPw:Px qX 22 dR wr (some ⟨mb,mo,none⟩) c2 ms:=HP.out.tf (fun q hq=>HAL.out.blk _ (HNE.out q hq).2 (fun e=>(HNE.out q hq).1 (by rw[<-e];rw[HN.out]))) HAL.out.size
   obtain⟨A,HA⟩:=nm_ (⟨x.1.toArray⟩:ByteArray)
   obtain⟨I,hI⟩:∃ L,row .u8 x.2.1=L:=⟨_,rfl⟩
   have hI20:I.length=20:=by rw[<-hI,zw];exact hxo.2.1.1
   have HI89:Hid ((Tryz.prog.info? 89).map (·.size)=some I.length):=hid (by rw[hI20];kernel_rfl)
   have HI86:Hid ((Tryz.prog.info? 86).map (·.size)=some I.length):=hid (by rw[hI20];kernel_rfl)
   have HEQ:Hid (∀ W:World,(Op.equalIn 10000 89 (.agg I.toArray) (.agg I.toArray)).run Tryz.prog W=.ok true W):=fun W=>by rw[<-hI];exact XK 89 Qx _ hxo.2.1.1 W
   have hrow:w.rangeAt gb (i*21) (j7 (x.1,x.2.1)):=by
    obtain⟨a',c',e',hP',_⟩:=vV (enc:=j7) (k:=21) (d:=dN) HB'.out (fun y hy=>by
     obtain⟨z,hz,rfl⟩:=List.mem_map.1 hy
     exact encN_len (HOK.out z hz).2.1.1)
    injection e' with e1 _ _
    obtain⟨b,off,e2,_,e3⟩:=hP'.at_ (by rw[List.length_map,HN.out];omega)
    rw[<-e1] at e2
    injection e2 with e2
    injection e2 with e2 e4 _
    have:=e3 i (by rw[List.length_map,HN.out];exact hlt)
    rw[<-e2,<-e4,Nat.zero_add] at this
    have e5:(ms.map fun r=>((r.1,r.2.1):Nx)).getD i dN=(x.1,x.2.1):=by
     have hi':i<ms.length:=by rw[HN.out];exact hlt
     rw[<-hx]
     simp[List.getD_eq_getElem?_getD,List.getElem?_eq_getElem hi']
    rw[e5] at this
    exact this
   have HQS:Hid (∀ W,(∀ k,k<wr.heap.size->W.heap[k]? = wr.heap[k]?)->QsL gb (i*21) mb (mo+i*22) (i*21+1) (mo+i*22+1) A I W):=fun W hW=>by
    have hre:ZK (some ⟨gb,0,none⟩) 149 w W (i*21):=fun g' cur' e hc=>by
     obtain⟨c3,h1,h2⟩:=HRE.out g' cur' e hc
     exact⟨c3,(hW g' (z7 h1)).trans h1,h2⟩
    have hr1:=hre.range rfl hcur (Nat.le_refl _) hrow
    obtain⟨_,_,e1,e2,e3⟩:=hPw.at_ (by rw[HN.out];omega)
    cases e1
    have e4:=e3 i (by rw[HN.out];exact hlt)
    have hr2:W.rangeAt mb (mo+i*22) (qX x):=fun j v hv=>by
     rw[hx] at e4
     have:=e4 j v hv
     simp only[World.cell?,hW mb e2] at this ⊢
     exact this
    refine⟨by rw[<-HA.out];exact hr1 0 _ rfl,by rw[<-HA.out];exact hr2 0 _ rfl,fun j v hv=>?_,fun j v hv=>?_⟩
    ·have:=hr1 (1+j) v (by unfold j7;rw[Nat.add_comm 1 j,List.getElem?_cons_succ,hI];exact hv)
     rw[<-this]
     congr 2
     omega
    ·have:=hr2 (1+j) v (by unfold qX;rw[Nat.add_comm 1 j,List.getElem?_cons_succ,List.getElem?_append_left (by rw[hI];exact(List.getElem?_eq_some_iff.1 hv).1),hI];exact hv)
     rw[<-this]
     congr 2
     omega
   have hS0:=HQS.out wr.drew (fun _ _=>rfl)
   have hd0:∀ k,k<wr.heap.size->wr.drew.heap[k]? = wr.heap[k]? := fun _ _=>rfl
   have HAL0:Hid (Al (fun i=>(Value.slice (some ⟨gb,0,none⟩) N vc).ownBlock=some i) w wr.drew):=hid ⟨HAL.out.os,HAL.out.tape,HAL.out.output,HAL.out.size,HAL.out.blk⟩
   have HRE0:Hid (ZK (some ⟨gb,0,none⟩) 149 w wr.drew (i*21)):=hid HRE.out.drew
   have hfz:wr.drew.frozen? ⟨gb,i*21,none⟩=false:=by
    obtain⟨c3,h1,_⟩:=HRE0.out gb cur rfl hcur
    simp[World.frozen?,h1]
   have HCUR:=hid hcur
   clear hPw hrow hcur hx hI HP HB HB'
   go_wp2
   refine wp_region_held_drew (S:=QsL gb (i*21) mb (mo+i*22) (i*21+1) (mo+i*22+1) A I) (by kernel_rfl) hS0 (fun hHeld=>?_)
   generalize wr.drew=u0 at hHeld hS0 hd0 HAL0 HRE0 hfz ⊢
   iterate 16
    refine qq (v:=?_) hHeld ?_ ?_
    rotate_left
    ·rintro w' ⟨c1,c2,_,_⟩;go_simp;rfl
    try simp only[Act.put,sL]
   refine takeY (i:=16) (v:=.agg I.toArray) hHeld (fun w' hw'=>qx 89 (.tmp 32) rfl gb (i*21+1) rfl I _ hw'.r1 Tryz.underlying89 rfl HI89.out) ?_
   try simp only[Act.put,sL]
   iterate 4
    refine qq (v:=?_) hHeld ?_ ?_
    rotate_left
    ·rintro w' ⟨c1,c2,_,_⟩;go_simp;rfl
    try simp only[Act.put,sL]
   refine takeY (i:=21) (v:=.agg I.toArray) hHeld (fun w' hw'=>qx 86 (.tmp 37) rfl mb (mo+i*22+1) rfl I _ hw'.r2 Tryz.underlying86 rfl HI86.out) ?_
   try simp only[Act.put,sL]
   refine takeY (i:=22) (v:=.bool false) hHeld ?_ ?_
   ·intro w' hw';have heq':=HEQ.out w';go_simp
   try simp only[Act.put,sL]
   iterate 1
    refine qq (v:=?_) hHeld ?_ ?_
    rotate_left
    ·rintro w' ⟨c1,c2,_,_⟩;go_simp;rfl
    try simp only[Act.put,sL]
   refine wpAnyH_done (by kernel_rfl) ?_ _
   have hcc:=hS0.c1
   have HAL1:Hid (∀ v,Al (fun i=>(Value.slice (some ⟨gb,0,none⟩) N vc).ownBlock=some i) w (u0.setCell ⟨gb,i*21,none⟩ v)):=fun v=>HAL0.out.trans (Al.of_set (S:=fun i=>(Value.slice (some ⟨gb,0,none⟩) N vc).ownBlock=some i) (p:=⟨gb,i*21,none⟩) rfl v) (fun i h=>.inl h)
   have HRE1:Hid (∀ v,ZK (some ⟨gb,0,none⟩) 149 w (u0.setCell ⟨gb,i*21,none⟩ v) ((i+1)*21)):=fun v=>HRE0.out.set rfl (by omega) (by omega) v
   clear hHeld hS0 hd0
   go_wp2
   go_roundg (N-(i+1))
   case measure=>omega
   case rel=>exact⟨i+1,by go_num,rfl,by omega,hid (HAL1.out _),hid (HRE1.out _)⟩
  ·have hlti:¬ (i:Int)<(N:Int):=by omega
   go_wp2
   exact bodyPost_ret (results_tmp Tryz.results28 _ _ _) rfl ⟨rfl,HAL.out⟩
theorem Tryz.results37:Tryz.f37.results=#[.tmp 4]:=by kernel_rfl
theorem ZK.below {va:Option Addr} {ty:TypeId} {w wr W:World} {q:Nat} (h:ZK va ty w wr q) (hb:Below wr.heap.size wr W):ZK va ty w W q:=fun g cur e hc=>by
 obtain⟨c,h1,h2⟩:=h g cur e hc
 exact⟨c,(hb.block g (z7 h1)).trans h1,h2⟩
theorem eqPer (p:Per) (W:World):(Op.equalIn 10000 74 (.agg (xq p)) (.agg (xq p))).run Tryz.prog W=.ok true W:=by
 obtain⟨pn,pm,pt,pz⟩:=p
 unfold xq
 simp only
 generalize (⟨pn.toArray⟩:ByteArray)=P1
 generalize (⟨pm.toArray⟩:ByteArray)=P2
 go_simp
theorem neqPer (p:Per) (W:World):(binOp .neq 74 (.agg (xq p)) (.agg (xq p))).run Tryz.prog W=.ok (.bool false) W:=by
 rw[run_neq_struct,eqPer p W];rfl
theorem exec_neqv {P:Program} {o:Oper} {a:Act} {w:World} (t t2:TypeId) (x y:Operand) (ho:o.op=.binOp .neq t x y t2) (u v:Value) (hx:a.eval x=u) (hy:a.eval y=v) {b:Bool} (hgd:(eqGuard .neq t x y u v).run P w=.ok () w) (hr:(binOp .neq t u v).run P w=.ok (.bool b) w):(execOp a.eval o).run P w=.ok (.value (.bool b)) w:=by
 unfold execOp
 simp[ho,hx,hy,hgd,hr,Result.andThen]
structure Qp (gb g0 mb m0 K:Nat) (A:ByteArray) (O Nw PL:List Value) (W:World):Prop where
 c1:W.cell? ⟨gb,g0+44,none⟩=some (.string A)
 c2:W.cell? ⟨mb,m0+45,none⟩=some (.string A)
 o1:W.rangeAt gb g0 O
 n1:W.rangeAt gb (g0+20) Nw
 o2:W.rangeAt mb (m0+1) O
 n2:W.rangeAt mb (m0+21) Nw
 p2:W.rangeAt mb (m0+41) PL
 p1:W.rangeAt K 0 PL
theorem xZ {w:World} {b o:Nat} {pre mid post:List Value} (h:w.rangeAt b o (pre++(mid++post))):w.rangeAt b (o+pre.length) mid:=fun j v hv=>by
 have:=h (pre.length+j) v (by
  rw[List.getElem?_append_right (by omega),Nat.add_sub_cancel_left,List.getElem?_append_left (List.getElem?_eq_some_iff.1 hv).1]
  exact hv)
 rw[<-this]
 congr 2
 omega
def Y9 (p:Per):List Value:=[.string ⟨p.name.toArray⟩,.string ⟨p.mail.toArray⟩,.int .i64 p.time,.int .i64 p.zone]
theorem YQ (e:Le):qv e=[]++(row .u8 e.old++(row .u8 e.new++(Y9 e.who++[sV e.text]))):=by unfold qv Y9;simp
theorem sameLog_any (B:Nat) (v:Value) (ms:List Ex) (a2:Option Addr) (c2:Nat) (w:World) (hB:w.ownsRow B 129 45 v ms.length ((ms.map (·.2)).flatMap qv)) (hP:Px yz 46 dE w a2 c2 ms) (hne:∀ p:Addr,a2=some p->v.ownBlock ≠ some p.block/\p.block<w.heap.size) (hok:∀ x ∈ ms,ExOk x) (hn:ms.length<=1000000) :
  Calls Tryz.prog 37 #[v,.slice a2 ms.length c2] w fun e w'=>e=.returned (.bool true)/\Al (fun i=>v.ownBlock=some i) w w':=by
 obtain⟨N,HN⟩:=nm_ ms.length
 have hN9:N<=1000000:=by rw[<-HN.out];exact hn
 have hB':w.ownsRow B 129 45 v (ms.map (·.2)).length ((ms.map (·.2)).flatMap qv):=by rw[List.length_map];exact hB
 obtain⟨va,vc,hv⟩:=zZ hB
 subst hv
 rw[HN.out]
 have HP:=hid hP
 have HB:=hid hB
 have HB':=hid hB'
 have HOK:=hid hok
 have HNE:=hid hne
 clear hP hB hok hne hn hB'
 go_enter Tryz.func37,Tryz.ntmps37
 go_wp2
 go_loopg [5] N (fun q iv wr=>∃ i:Nat,iv=.int .i64 i/\q=N-i/\i<=N/\Hid (Al (fun i=>(Value.slice va N vc).ownBlock=some i) w wr)/\Hid (ZK va 129 w wr (i*45)))
 case atStart=>exact⟨0,rfl,rfl,Nat.zero_le _,hid (Al.refl _ _),hid (fun g cur _ h=>⟨cur,h,fun _ _=>rfl⟩)⟩
 case round =>
  obtain⟨i,rfl,hq,hin,HAL,HRE⟩:=hrel
  by_cases hlt:i<N
  ·have hlti:(i:Int)<(N:Int):=by omega
   obtain⟨gb,cap,cur,hv,hcur⟩:=own_box HB.out (by rw[HN.out];omega)
   injection hv with hva hv2 hv3
   clear hv2 hv3
   subst hva
   obtain⟨x,hx⟩:∃ x,ms.getD i dE=x:=⟨_,rfl⟩
   have hxo:ExOk x:=by rw[<-hx];exact HOK.out _ (zK ms i dE (by rw[HN.out];exact hlt))
   obtain⟨mb,mo,hma,hmb,_⟩:=HP.out.at_ (by rw[HN.out];omega)
   subst hma
   have hmbs:mb<wr.heap.size:=Nat.lt_of_lt_of_le hmb HAL.out.size
   have hgb:gb<wr.heap.size:=Nat.lt_of_lt_of_le (z7 hcur) HAL.out.size
   have hPw:Px yz 46 dE wr (some ⟨mb,mo,none⟩) c2 ms:=HP.out.tf (fun q hq=>HAL.out.blk _ (HNE.out q hq).2 (fun e=>(HNE.out q hq).1 (by rw[<-e];rw[HN.out]))) HAL.out.size
   obtain⟨A,HA⟩:=nm_ (⟨x.2.text.toArray⟩:ByteArray)
   obtain⟨O,hO⟩:∃ L,row .u8 x.2.old=L:=⟨_,rfl⟩
   obtain⟨Nw,hNw⟩:∃ L,row .u8 x.2.new=L:=⟨_,rfl⟩
   obtain⟨PL,hPL⟩:∃ L,Y9 x.2.who=L:=⟨_,rfl⟩
   have hO20:O.length=20:=by rw[<-hO,zw];exact hxo.2.1.1
   have hN20:Nw.length=20:=by rw[<-hNw,zw];exact hxo.2.2.1
   have hP4:PL.length=4:=by rw[<-hPL];rfl
   have HO89:Hid ((Tryz.prog.info? 89).map (·.size)=some O.length):=hid (by rw[hO20];kernel_rfl)
   have HO86:Hid ((Tryz.prog.info? 86).map (·.size)=some O.length):=hid (by rw[hO20];kernel_rfl)
   have HN89:Hid ((Tryz.prog.info? 89).map (·.size)=some Nw.length):=hid (by rw[hN20];kernel_rfl)
   have HN86:Hid ((Tryz.prog.info? 86).map (·.size)=some Nw.length):=hid (by rw[hN20];kernel_rfl)
   have HP74:Hid ((Tryz.prog.info? 74).map (·.size)=some PL.length):=hid (by rw[hP4];kernel_rfl)
   have HP74a:Hid ((Tryz.prog.info? 74).map (·.size)=some PL.toArray.size):=hid (by rw[List.size_toArray,hP4];kernel_rfl)
   have HP38:Hid ((Tryz.prog.info? 38).map (·.size)=some PL.length):=hid (by rw[hP4];kernel_rfl)
   have HPS:Hid ((4:Nat)=PL.toArray.size):=hid (by rw[List.size_toArray,hP4])
   have HPO:Hid (PL.toArray.all (·.oneCell')=true):=hid (by rw[<-hPL];exact all_oneCell_toArray (fun v hv=>by simp[Y9] at hv;rcases hv with rfl | rfl | rfl | rfl <;> rfl))
   have HEO:Hid (∀ W:World,(Op.equalIn 10000 89 (.agg O.toArray) (.agg O.toArray)).run Tryz.prog W=.ok true W):=fun W=>by rw[<-hO];exact XK 89 Qx _ hxo.2.1.1 W
   have HEN:Hid (∀ W:World,(Op.equalIn 10000 89 (.agg Nw.toArray) (.agg Nw.toArray)).run Tryz.prog W=.ok true W):=fun W=>by rw[<-hNw];exact XK 89 Qx _ hxo.2.2.1 W
   have HEP:Hid (∀ W:World,(binOp .neq 74 (.agg PL.toArray) (.agg PL.toArray)).run Tryz.prog W=.ok (.bool false) W):=fun W=>by rw[<-hPL];exact neqPer x.2.who W
   have hrow:w.rangeAt gb (i*45) (qv x.2):=by
    obtain⟨a',c',e',hP',_⟩:=vV (enc:=qv) (k:=45) (d:=dL) HB'.out (fun y hy=>by
     obtain⟨z,hz,rfl⟩:=List.mem_map.1 hy
     exact yx (HOK.out z hz).2)
    injection e' with e1 _ _
    obtain⟨b,off,e2,_,e3⟩:=hP'.at_ (by rw[List.length_map,HN.out];omega)
    rw[<-e1] at e2
    injection e2 with e2
    injection e2 with e2 e4 _
    have:=e3 i (by rw[List.length_map,HN.out];exact hlt)
    rw[<-e2,<-e4,Nat.zero_add] at this
    have e5:(ms.map (·.2)).getD i dL=x.2:=by
     have hi':i<ms.length:=by rw[HN.out];exact hlt
     rw[<-hx]
     simp[List.getD_eq_getElem?_getD,List.getElem?_eq_getElem hi']
    rw[e5] at this
    exact this
   have HRO:Hid (∀ W,Below wr.heap.size wr W->W.rangeAt gb (i*45) (qv x.2)/\W.rangeAt mb (mo+i*46) (yz x)/\ZK (some ⟨gb,0,none⟩) 129 w W (i*45)/\Al (fun i=>(Value.slice (some ⟨gb,0,none⟩) N vc).ownBlock=some i) w W/\W.frozen? ⟨gb,i*45+44,none⟩=false):=fun W hW=>by
    have hre:=HRE.out.below hW
    refine⟨hre.range rfl hcur (Nat.le_refl _) hrow,?_,hre,HAL.out.trans (Al.below (S:=fun _=>False) hW) (fun i h=>h.elim),?_⟩
    ·obtain⟨_,_,e1,e2,e3⟩:=(hPw.below hW).at_ (by rw[HN.out];omega)
     cases e1
     have e4:=e3 i (by rw[HN.out];exact hlt)
     rw[hx] at e4
     exact e4
    ·obtain⟨c3,h1,_⟩:=hre gb cur rfl hcur
     simp[World.frozen?,h1]
   have HPR:Hid (∀ W,Below wr.heap.size wr W->W.rangeAt gb (i*45+40) PL):=fun W hW=>by
    have h1:=(HRO.out W hW).1
    rw[YQ,List.nil_append,<-List.append_assoc,hPL] at h1
    have:=xZ h1
    rw[List.length_append,hO,hNw,hO20,hN20] at this
    exact this
   have HQP:Hid (∀ W K,Below wr.heap.size wr W->W.heap[K]? = some (.cells PL.toArray 74)->Qp gb (i*45) mb (mo+i*46) K A O Nw PL W):=fun W K hW hK=>by
    obtain⟨h1,h2,_⟩:=HRO.out W hW
    rw[YQ,hO,hNw,hPL] at h1
    unfold yz at h2
    rw[YQ,hO,hNw,hPL] at h2
    have a1:=xZ h1
    have a2:=xZ (pre:=O) (mid:=Nw) (post:=PL++[sV x.2.text]) (by simpa using h1)
    have a3:=xZ (pre:=O++(Nw++PL)) (mid:=[sV x.2.text]) (post:=[]) (by simpa using h1)
    have b1:=xZ (pre:=[sV x.1]) (mid:=O) (post:=Nw++(PL++[sV x.2.text])) (by simpa using h2)
    have b2:=xZ (pre:=[sV x.1]++O) (mid:=Nw) (post:=PL++[sV x.2.text]) (by simpa using h2)
    have b3:=xZ (pre:=[sV x.1]++(O++Nw)) (mid:=PL) (post:=[sV x.2.text]) (by simpa using h2)
    have b4:=xZ (pre:=[sV x.1]++(O++(Nw++PL))) (mid:=[sV x.2.text]) (post:=[]) (by simpa using h2)
    have l1:(O++(Nw++PL)).length=44:=by simp[hO20,hN20,hP4]
    have l2:([sV x.1]++O).length=21:=by simp[hO20]
    have l3:([sV x.1]++(O++Nw)).length=41:=by simp[hO20,hN20]
    have l4:([sV x.1]++(O++(Nw++PL))).length=45:=by simp[hO20,hN20,hP4]
    rw[hO20] at a2
    rw[l1] at a3
    rw[l2] at b2
    rw[l3] at b3
    rw[l4] at b4
    exact⟨by rw[<-HA.out];exact a3 0 _ rfl,by rw[<-HA.out];exact b4 0 _ rfl,a1,a2,b1,b2,b3,zy hK⟩
   have C21:Calls Tryz.prog 21 #[.agg PL.toArray] wr fun e w'=>e=.returned (.agg PL.toArray)/\Below wr.heap.size wr w':=by
    have:=person_any x.2.who wr
    rw[<-hPL]
    exact this
   have hpr:=HPR.out wr (Below.refl _ _)
   have HPRR:=hid hpr
   clear hpr hPw hrow hcur hx hO hNw hPL HP HB HB'
   go_wp2_with (first
    | (refine wpList_load_mid rfl 38 (.tmp 21) rfl _ _ rfl PL _ HPRR.out Tryz.underlying38 rfl HP38.out ?_;go_frame)
    | (go_at_call 21;refine C21.mono ?_;rintro e w1 ⟨rfl,hb⟩;have HB1:=hid hb;clear hb C21)
    | (refine zq rfl 74 (.tmp 6) (.tmp 23) rfl _ PL.toArray rfl rfl HP74a.out HPS.out HPO.out ?_;go_frame))
   obtain⟨K,hK⟩:∃ K,w1.heap.size=K:=⟨_,rfl⟩
   have hb2:Below wr.heap.size wr (w1.alloc (.cells PL.toArray 74)):=HB1.out.alloc HB1.out.size _
   have hk2:(w1.alloc (.cells PL.toArray 74)).heap[K]? = some (.cells PL.toArray 74):=by rw[<-hK];exact heap_alloc_new _ _
   rw[hK]
   generalize w1.alloc (.cells PL.toArray 74)=w2 at hb2 hk2 ⊢
   have hb3:Below wr.heap.size wr w2.drew:=hb2.trans (zv _ _ 1)
   have hS0:=HQP.out w2.drew K hb3 hk2
   refine wp_region_held_drew (S:=Qp gb (i*45) mb (mo+i*46) K A O Nw PL) (by kernel_rfl) hS0 (fun hHeld=>?_)
   generalize w2.drew=u0 at hHeld hS0 hb3 ⊢
   iterate 4
    refine qq (v:=?_) hHeld ?_ ?_
    rotate_left
    ·rintro w' ⟨c1,c2,_,_,_,_,_,_⟩;go_simp;rfl
    try simp only[Act.put,sL]
   refine takeY (i:=4) (v:=.agg O.toArray) hHeld (fun w' hw'=>qx 89 (.tmp 27) rfl gb (i*45) rfl O _ hw'.o1 Tryz.underlying89 rfl HO89.out) ?_
   try simp only[Act.put,sL]
   iterate 4
    refine qq (v:=?_) hHeld ?_ ?_
    rotate_left
    ·rintro w' ⟨c1,c2,_,_,_,_,_,_⟩;go_simp;rfl
    try simp only[Act.put,sL]
   refine takeY (i:=9) (v:=.agg O.toArray) hHeld (fun w' hw'=>qx 86 (.tmp 32) rfl mb (mo+i*46+1) rfl O _ hw'.o2 Tryz.underlying86 rfl HO86.out) ?_
   try simp only[Act.put,sL]
   refine takeY (i:=10) (v:=.bool false) hHeld ?_ ?_
   ·intro w' hw';have heq':=HEO.out w';go_simp
   try simp only[Act.put,sL]
   iterate 5
    refine qq (v:=?_) hHeld ?_ ?_
    rotate_left
    ·rintro w' ⟨c1,c2,_,_,_,_,_,_⟩;go_simp;rfl
    try simp only[Act.put,sL]
   refine takeY (i:=16) (v:=.agg Nw.toArray) hHeld (fun w' hw'=>qx 89 (.tmp 39) rfl gb (i*45+20) rfl Nw _ hw'.n1 Tryz.underlying89 rfl HN89.out) ?_
   try simp only[Act.put,sL]
   iterate 4
    refine qq (v:=?_) hHeld ?_ ?_
    rotate_left
    ·rintro w' ⟨c1,c2,_,_,_,_,_,_⟩;go_simp;rfl
    try simp only[Act.put,sL]
   refine takeY (i:=21) (v:=.agg Nw.toArray) hHeld (fun w' hw'=>qx 86 (.tmp 44) rfl mb (mo+i*46+21) rfl Nw _ hw'.n2 Tryz.underlying86 rfl HN86.out) ?_
   try simp only[Act.put,sL]
   refine takeY (i:=22) (v:=.bool false) hHeld ?_ ?_
   ·intro w' hw';have heq':=HEN.out w';go_simp
   try simp only[Act.put,sL]
   iterate 2
    refine qq (v:=?_) hHeld ?_ ?_
    rotate_left
    ·rintro w' ⟨c1,c2,_,_,_,_,_,_⟩;go_simp;rfl
    try simp only[Act.put,sL]
   refine takeY (i:=25) (v:=.agg PL.toArray) hHeld (fun w' hw'=>qx 74 (.tmp 6) rfl K 0 rfl PL _ hw'.p1 Tryz.underlying74 rfl HP74.out) ?_
   try simp only[Act.put,sL]
   iterate 4
    refine qq (v:=?_) hHeld ?_ ?_
    rotate_left
    ·rintro w' ⟨c1,c2,_,_,_,_,_,_⟩;go_simp;rfl
    try simp only[Act.put,sL]
   refine takeY (i:=30) (v:=.agg PL.toArray) hHeld (fun w' hw'=>qx 74 (.tmp 53) rfl mb (mo+i*46+41) rfl PL _ hw'.p2 Tryz.underlying74 rfl HP74.out) ?_
   try simp only[Act.put,sL]
   refine takeY (i:=31) (v:=.bool false) hHeld (fun w' hw'=>exec_neqv 74 74 (.tmp 49) (.tmp 54) rfl (.agg PL.toArray) (.agg PL.toArray) rfl rfl (by kernel_rfl) (HEP.out w')) ?_
   try simp only[Act.put,sL]
   iterate 14
    refine qq (v:=?_) hHeld ?_ ?_
    rotate_left
    ·rintro w' ⟨c1,c2,_,_,_,_,_,_⟩;go_simp;rfl
    try simp only[Act.put,sL]
   refine wpAnyH_done (by kernel_rfl) ?_ _
   have hcc:=hS0.c1
   obtain⟨_,_,re0,al0,hfz⟩:=HRO.out u0 hb3
   have HAL1:Hid (∀ v,Al (fun i=>(Value.slice (some ⟨gb,0,none⟩) N vc).ownBlock=some i) w (u0.setCell ⟨gb,i*45+44,none⟩ v)):=fun v=>al0.trans (Al.of_set (S:=fun i=>(Value.slice (some ⟨gb,0,none⟩) N vc).ownBlock=some i) (p:=⟨gb,i*45+44,none⟩) rfl v) (fun i h=>.inl h)
   have HRE1:Hid (∀ v,ZK (some ⟨gb,0,none⟩) 129 w (u0.setCell ⟨gb,i*45+44,none⟩ v) ((i+1)*45)):=fun v=>re0.set rfl (by omega) (by omega) v
   clear hHeld hS0 hb3 re0 al0
   go_wp2
   go_roundg (N-(i+1))
   case measure=>omega
   case rel=>exact⟨i+1,by go_num,rfl,by omega,hid (HAL1.out _),hid (HRE1.out _)⟩
  ·have hlti:¬ (i:Int)<(N:Int):=by omega
   go_wp2
   exact bodyPost_ret (results_tmp Tryz.results37 _ _ _) rfl ⟨rfl,HAL.out⟩
end Go.Proofs.YtgliaiemkfopeaaGreatDoor.K
