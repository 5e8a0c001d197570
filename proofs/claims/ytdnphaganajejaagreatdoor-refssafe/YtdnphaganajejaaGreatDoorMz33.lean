import Derived.Test.YtdnphaganajejaaGreatDoorMz31
import Derived.Test.YtdnphaganajejaaGreatDoorMz32
set_option linter.unusedSimpArgs false
set_option linter.unusedVariables false
set_option maxRecDepth 20000
set_option maxHeartbeats 4000000
open List renaming filterMap_append->WxV,filterMap_cons->WxW,filterMap_nil->WxY,mem_singleton->Wqk,take_of_length_le->Wq0
open Nat renaming le_refl->Wz8
namespace Go.Proofs.YtdnphaganajejaaGreatDoor.K
open Go.Proofs.Tryz
open Go.RowKit
theorem results30:f30.results=#[.tmp 4]:=by kernel_rfl
abbrev Nx:=Str × List Int
def jj (x:Nx):List Value:=sV x.1 :: row .u8 x.2
abbrev dN:Nx:=([],[])
theorem WV {x:Nx} (h:x.2.length=20):(jj x).length=21:=by simp[jj,zv,h]
theorem zuj (x:Nx):∀ v ∈ jj x,v.oneCell'=true:=fun v hv=>by
 unfold jj at hv;simp only[List.mem_cons] at hv;rcases hv with rfl | hv
 ·rfl
 exact yK .u8 x.2 v hv
theorem Ix:(prog.info? 156).map (fun i=>(i.zero,i.size,i.bytes))=some (some (.agg (jj ([],zZ)).toArray),21,40):=by kernel_rfl
theorem qxQ:prog.underlying 87=some (.slice 156):=by kernel_rfl
theorem z149:(Value.agg (jj ([],zZ)).toArray).cells.size=21:=by kernel_rfl
theorem zuk (x:Nx) (h:x.2.length=20) (w:World):(Instr.buildSlice 87 1 #[(0,.agg (jj x).toArray)]).run prog w=.ok (.slice (some ⟨w.heap.size,0,none⟩) 1 1) (w.alloc (.cells (jj x).toArray 156)):=by
 obtain⟨i,Q,V,hs,_⟩:=qQ Ix;refine run_buildSlice w 87 156 1 _ (jj x).toArray i _ qxQ Q V (by rw[hs];decide) (by rw[hs];decide) ?_;rw[hs];obtain⟨nm,id⟩:=x;simp only at h;obtain⟨c0,c1,c2,c3,c4,c5,Y,c7,Z,c9,j,A,D,G,I,J,K,L,M,O,rfl⟩:=yJ id h;unfold jj sV;simp only;generalize (⟨nm.toArray⟩:ByteArray)=P5;show _=_;kernel_rfl
theorem bd149 (A:ByteArray) (id:List Int) (hi:id.length=20) (w:World):(Instr.build 156 #[(0,.string A),(1,.agg (row .u8 id).toArray)]).run prog w=.ok (.agg (.string A :: row .u8 id).toArray) w:=by
 obtain⟨c0,c1,c2,c3,c4,c5,Q,c7,V,c9,h,j,D,G,I,J,K,L,M,O,rfl⟩:=yJ id hi;kernel_rfl
def lt1 (T:Ts) (p:Str) (x:Str):Option Nx:=if Lib.hasPrefix x p then (match rdT T x with | .ok id=>some (x,id) | .error _=>none) else none
def ltT (T:Ts) (ss:List Str) (p:Str):List Nx:=ss.filterMap (lt1 T p)
theorem qj2 {S:Nat->Prop} {w:World} {t n:Nat} {T:Ts} (h:Tt S w t n T) {x:Str} {id:List Int} (hr:rdT T x=.ok id):IdW id:=by
 unfold rdT at hr;split at hr
 ·cases hr
 split at hr
 ·cases hr
 rename_i q j;cases hr
 exact(h.at_ _ q j).id
def zuv (T:Ts) (p:Str) (w:World) (e:Ending) (w':World):Prop := ∃ v ss,e=.returned v/\Nms T ss/\Bx jj 21 156 w w' w.heap.size v (ltT T ss p)
theorem zzX (S XE:Nat->Prop) (N D R:Nat) (w:World) (q:Bool) (o z:Option Str) (go un:Bool) (t n:Nat) (T:Ts) (p:Str) (h:Pv S XE N D R w q o z go un t n T) (hn:n<=100000) (aR:∀ ss,Nms T ss->ss.length<=100000) :
  Calls prog 30 #[.pointer (some ⟨R,0,none⟩),sV p] w (zuv T p w):=by
 obtain⟨r,HR⟩:=nm_ w.heap.size;have aO:R<r:=by rw[<-HR.out];exact z7 h.rf.box
 have aQ:=h.rf.c.2.1;have ah:=Nz (SrE S R XE) t n T w h.tt hn;have aL:Hid (∀ W,Below r w W->Tt (SrE S R XE) W t n T/\W.cell? ⟨R,1,none⟩=some (.map (some t))):=fun W Q=>⟨h.tt.below (by rw[HR.out];exact Q),(Q.cell (p:=⟨R,1,none⟩) aO).trans aQ⟩;have ak:=hid h.tt;have aG:=hid aR;rw[HR.out] at ah;clear h;unfold sV;obtain⟨aY,aj⟩:=nm_ (⟨p.toArray⟩:ByteArray)
 rw[aj.out];go_enter func30,ntmps30
 go_wp2_with (go_at_call 65;refine ah.mono ?_;rintro e w1 ⟨v,ss,rfl,q1,q2,q3,q4,q5⟩;rw[<-jV] at q4;obtain⟨a,c,rfl,hP,au⟩:=uX (enc:=eT) (d:=[]) q4 (fun _ _=>rfl);have a7:Hid (Nms T ss):=hid ⟨q1,q2,q3⟩;have HP:=hid hP;have aX:=hid au;have B1:=hid q5;have aV:=aG.out ss a7.out;obtain⟨L,HL⟩:∃ L,Hid (ss.length=L):=⟨_,rfl⟩;rw[HL.out] at aV ⊢;clear q1 q2 q3 q4 q5 hP au ah)
 obtain⟨r1,a8⟩:=nm_ w1.heap.size;have av:r<=r1:=by have:=B1.out.size;have:=HR.out;have:=a8.out;omega
 have az:Hid (Bx jj 21 156 w1 w1 r1 (.slice none 0 0) []):=hid (uk 156 w1 r1 (by rw[a8.out];exact Wz8 _));have aI:Hid (∀ W,Below r1 w1 W->Px eT 1 [] W a c ss):=fun W Q=>HP.out.below (by rw[a8.out];exact Q)
 go_loopg [5,16] L (fun q ov iv wr=>∃ (i:Nat) (u:Value) (out:List Nx),iv=.int .i64 i/\u=ov/\q=L-i/\i<=L/\out.length<=i/\Hid (Bx jj 21 156 w1 wr r1 u out)/\Hid (out=(ss.take i).filterMap (lt1 T p)));case atStart=>exact⟨0,_,[],rfl,rfl,rfl,Nat.zero_le _,by simp,az,hid (by simp)⟩
 obtain⟨i,u,out,rfl,hu,hq,b2,b6,HB,HO⟩:=hrel;subst hu;have aJ:Hid (Px eT 1 [] wr a c ss):=hid (aI.out wr HB.out.below);have ae:Below r w wr:=B1.out.trans (HB.out.below.mono av);obtain⟨ua,uc,aw⟩:=zu HB.out.own;obtain⟨un,ai⟩:∃ n,out.length=n:=⟨_,rfl⟩;rw[ai] at aw;subst aw;by_cases ag:i<L;rotate_left
 ·have ar:¬ (i:Int)<(L:Int):=by omega
  obtain rfl:i=L:=by omega
  have HF:Hid (zuv T p w (.returned (.slice ua un uc)) wr):=hid ⟨_,ss,rfl,a7.out,by
   rw[HR.out];have:out=ltT T ss p:=(by rw[HO.out,Wq0 (by rw[HL.out];exact Wz8 _)];rfl);rw[<-this];exact⟨ae,qv HB.out.own av,by have:=ae.size;have:=HR.out;omega⟩⟩
  clear ai;go_wp2;exact bodyPost_ret (results_tmp results30 _ _ _) rfl HF.out
 have ar:(i:Int)<(L:Int):=by omega
 obtain⟨b,off,aP,_,e3⟩:=aJ.out.at_ (by rw[HL.out];omega);subst aP;obtain⟨y,hy⟩:∃ y,ss.getD i []=y:=⟨_,rfl⟩;have k7:wr.cell? ⟨b,off+i,none⟩=some (sV y):=by
  have:=e3 i (by rw[HL.out];exact ag) 0 _ rfl;rw[hy] at this;simpa using this
 have ax:T y ≠ none:=(a7.out.mem y).1 (by rw[<-hy];exact zQ ss i [] (by rw[HL.out];exact ag));have aW:y.length<=60:=by
  cases hT:T y with
  | none=>exact absurd hT ax
  | some q=>exact(ak.out.at_ y q hT).nm
 obtain⟨ay,aZ⟩:=aL.out wr ae;have ad:Hid ((ss.take (i+1)).filterMap (lt1 T p)=(ss.take i).filterMap (lt1 T p)++(lt1 T p y).toList):=hid (by
  rw[qk [] ss i (by rw[HL.out];exact ag),WxV,<-hy];congr 1;first | done | (simp only[WxW,WxY];cases lt1 T p (ss.getD i []) <;> rfl))
 have A:=Nm.hasPrefix_any y p wr;have j:=Nq (SrE S R XE) t n T y wr ay (by omega);obtain⟨Y,HY⟩:=nm_ (⟨y.toArray⟩:ByteArray);unfold sV at k7 j;rw[HY.out] at k7 j;rw[HY.out,aj.out] at A;clear e3 ay ax ai;cases J:Lib.hasPrefix y p with
 | false =>
  rw[J] at A;have ac:Hid ((ss.take (i+1)).filterMap (lt1 T p)=out):=hid (by
   rw[ad.out,HO.out];unfold lt1;simp[J])
  clear j J;go_wp2_with (go_at_call 66;refine A.mono ?_;rintro e w' ⟨rfl,hw⟩;have O:=hw.symm;subst O;clear hw A)
  go_roundg (L-(i+1));case measure=>omega
  case rel=>exact⟨i+1,_,out,by go_num,rfl,rfl,by omega,by omega,HB,hid ac.out.symm⟩
 | true =>
  rw[J] at A;unfold Ky at j;cases M:rdT T y with
  | error k =>
   obtain⟨Z,HZ⟩:=ri zZ rfl;rw[M] at j;simp only[HZ.out.e] at j;have ac:Hid ((ss.take (i+1)).filterMap (lt1 T p)=out):=hid (by
    rw[ad.out,HO.out];unfold lt1;simp[J,M])
   have a6:Hid (∀ W,Below wr.heap.size wr W->Bx jj 21 156 w1 (W.alloc (.cells Z 116)) r1 (.slice ua un uc) out):=fun W Q=>(HB.out.carry Q).alloc _;clear M J;go_wp2_with (first
    | (go_at_call 66;refine A.mono ?_;rintro e w' ⟨rfl,hw⟩;have O:=hw.symm;subst O;clear hw A)
    | (go_at_call 67;refine j.mono ?_;rintro e w2 ⟨rfl,hb⟩;have aA:=hid (a6.out w2 hb);clear hb j)
    | (refine zq rfl 116 (.tmp 8) (.tmp 31) rfl _ Z rfl rfl HZ.out.i HZ.out.z HZ.out.o ?_;go_frame))
   go_roundg (L-(i+1));case measure=>omega
   case rel=>exact⟨i+1,_,out,by go_num,rfl,rfl,by omega,by omega,aA,hid ac.out.symm⟩
  | ok id =>
   have G:IdW id:=qj2 ak.out M;obtain⟨I,HI⟩:=ri id G.1;rw[M] at j;simp only[HI.out.e] at j;obtain⟨E,hE⟩:∃ E,jj (y,id)=E:=⟨_,rfl⟩;have aC:Hid (∀ W:World,(Instr.build 156 #[(0,.string Y),(1,.agg I)]).run prog W=.ok (.agg E.toArray) W):=fun W=>by rw[<-hE,<-HY.out,<-HI.out.e];exact bd149 _ id G.1 W
   have aD:Hid (∀ W:World,(Instr.buildSlice 87 1 #[(0,.agg E.toArray)]).run prog W=.ok (.slice (some ⟨W.heap.size,0,none⟩) 1 1) (W.alloc (.cells E.toArray 156))):=fun W=>by rw[<-hE];exact zuk (y,id) G.1 W
   have aH:Hid (∀ W:World,Px jj 21 dN (W.alloc (.cells E.toArray 156)) (some ⟨W.heap.size,0,none⟩) 1 [(y,id)]):=fun W=>by
    have:=x5 (enc:=jj) (d:=dN) W (y,id) 156;rw[WV (x:=(y,id)) G.1,hE] at this;exact this
   have aN:Hid ((jj (y,id)).length=21):=hid (WV (x:=(y,id)) G.1);have aK:Hid ((ss.take (i+1)).filterMap (lt1 T p)=out++[(y,id)]):=hid (by
    rw[ad.out,HO.out];unfold lt1;simp[J,M])
   have a6:Hid (∀ W,Below wr.heap.size wr W->∃ V K,W.alloc (.cells I 116)=V/\W.heap.size=K/\V.heap[K]? = some (.cells I 116)/\Bx jj 21 156 w1 (V.alloc (.cells E.toArray 156)) r1 (.slice ua un uc) out):=fun W Q=>⟨_,_,rfl,rfl,heap_alloc_new _ _,((HB.out.carry Q).alloc _).alloc _⟩;have aF:Hid (out.length + [((y,id):Nx)].length<=1000000000):=hid (by simp;omega);clear M J hE
   go_wp2_with (first
    | (go_at_call 66;refine A.mono ?_;rintro e w' ⟨rfl,hw⟩;have O:=hw.symm;subst O;clear hw A)
    | (go_at_call 67;refine j.mono ?_;rintro e w2 ⟨rfl,hb⟩;obtain⟨V,K,hV,hK,am,ap⟩:=a6.out w2 hb;have HV:=hid hV;have HK:=hid hK;have aM:=hid am;have aE:=hid ap;clear hb j hV hK am ap)
    | (refine zq rfl 116 (.tmp 8) (.tmp 31) rfl _ I rfl rfl HI.out.i HI.out.z HI.out.o ?_;rw[HV.out,HK.out];go_frame)
    | (refine zX rfl 116 (.tmp 8) rfl _ I 116 (0,0) _ rfl aM.out underlying116 rfl HI.out.i ?_;go_frame)
    | (refine z8 rfl (.agg E.toArray) (vz 156 0 1 (.tmp 36) (.tmp 37) rfl (.string Y) (.agg I) _ rfl rfl (aC.out _)) ?_;go_frame)
    | (refine z8 rfl _ (qJ 87 (.tmp 38) rfl (.agg E.toArray) _ rfl (aD.out _)) ?_;go_frame)
    | (at_builtin;refine zy (enc:=jj) (k:=21) (d:=dN) rfl _ _ 87 156 qxQ Ix z149 (by decide) (by decide) zuj rfl r1 (.slice ua un uc) out rfl aE.out (some ⟨V.heap.size,0,none⟩) 1 [(y,id)] rfl (aH.out V) (fun z hz=>by rw[Wqk.1 hz];exact aN.out) aF.out ?_;intro v3 w3 ao aS aU;have aB:=hid ao;clear ao aS aU))
   go_roundg (L-(i+1));case measure=>omega
   case rel=>exact⟨i+1,_,out++[(y,id)],by go_num,rfl,rfl,by omega,by simp;omega,aB,hid aK.out.symm⟩
theorem results31:f31.results=#[.tmp 4]:=by kernel_rfl
theorem L0 (l p:Str):Lib.hasPrefix l p=decide (l.take p.length=p):=by
 rw[Lib.hasPrefix,Bool.eq_iff_iff,List.isPrefixOf_iff_prefix,List.prefix_iff_eq_take,decide_eq_true_iff];exact eq_comm
def ls1 (rs:List Rx) (p:Str) (x:Str):Option Rx:=if Lib.hasPrefix x p then (match rdD rs x with | .ok id=>some (x,(id,[])) | .error _=>none) else none
def lsD (rs:List Rx) (p:Str):List Rx:=rs.filterMap fun r=>ls1 rs p r.1
theorem qxX (A:ByteArray) (id:List Int) (hi:id.length=20) (w:World):(Instr.build 93 #[(0,.string A),(1,.agg (row .u8 id).toArray)]).run prog w=.ok (.agg (.string A :: (row .u8 id++[sV []])).toArray) w:=by
 obtain⟨c0,c1,c2,c3,c4,c5,Q,c7,V,c9,h,j,D,G,I,J,K,L,M,O,rfl⟩:=yJ id hi;kernel_rfl
theorem zuw {rs:List Rx} (h:∀ x ∈ rs,jW x) {x:Str} {id:List Int} (hr:rdD rs x=.ok id):IdW id:=by
 unfold rdD rdF at hr;split at hr
 ·split at hr
  ·cases hr
  split at hr
  ·cases hr
  rename_i k j;cases hr
  exact(zuz h j).1
 cases hr
theorem zzJ {G Q:Nat} {v1 v2:Value} {rs:List Rx} {ls:List Ex} (p:Str) (az:p.length<=1000) (w:World) (h:Dq G w Q v1 v2 rs ls) :
  Calls prog 31 #[.pointer (some ⟨Q,0,none⟩),sV p] w fun e w'=>∃ v,e=.returned v/\Bx yx 22 93 w w' w.heap.size v (lsD rs p):=by
 obtain⟨r,HR⟩:=nm_ w.heap.size;have aP:Q<r:=by rw[<-HR.out];exact z7 h.box
 obtain⟨a,c,e2,hP,aW,av⟩:=h.px1;subst e2;obtain⟨N,HN⟩:=nm_ rs.length;have b8:N<=100000:=by rw[<-HN.out];exact h.few.1
 have aM:Hid (∀ W,Below r w W->Dq G W Q (.slice a rs.length c) v2 rs ls/\Px yx 22 dR W a c rs/\W.cell? ⟨Q,0,none⟩=some (.slice a N c)):=fun W hW=>⟨h.below (by rw[HR.out];exact hW),hP.below (by rw[HR.out];exact hW),by rw[<-HN.out];exact(hW.cell (p:=⟨Q,0,none⟩) aP).trans av⟩
 have aC:Hid (Bx yx 22 93 w w r (.slice none 0 0) []):=hid (uk 93 w r (by rw[HR.out];exact Wz8 _));have am:=hid h.ok1;have b7:=hid az;rw[HR.out];clear h hP aW av;unfold sV;obtain⟨ac,L⟩:=nm_ (⟨p.toArray⟩:ByteArray);rw[L.out];go_enter func31,ntmps31;go_wp2
 go_loopg [5,6] N (fun q ov iv wr=>∃ (i:Nat) (u:Value) (out:List Rx),iv=.int .i64 i/\u=ov/\q=N-i/\i<=N/\out.length<=i/\Hid (Bx yx 22 93 w wr r u out)/\Hid (out=(rs.take i).filterMap fun r=>ls1 rs p r.1));case atStart=>exact⟨0,_,[],rfl,rfl,rfl,Nat.zero_le _,by simp,aC,hid (by simp)⟩
 obtain⟨i,u,out,rfl,hu,hq,be,bh,HB,HO⟩:=hrel;subst hu;obtain⟨k1,k2,k3⟩:=aM.out wr HB.out.below;obtain⟨ua,uc,aA⟩:=zu HB.out.own;obtain⟨un,aj⟩:∃ n,out.length=n:=⟨_,rfl⟩;rw[aj] at aA;subst aA;by_cases ai:i<N;rotate_left
 ·have ay:¬ (i:Int)<(N:Int):=by omega
  obtain rfl:i=N:=by omega
  have HE:Hid (out=lsD rs p):=hid (by rw[HO.out,Wq0 (by rw[HN.out];exact Wz8 _)];rfl);have HF:Hid (∃ v,Ending.returned (.slice ua un uc)=.returned v/\Bx yx 22 93 w wr r v (lsD rs p)):=hid ⟨_,rfl,by rw[<-HE.out];exact HB.out⟩;clear k1 k2 aj;go_wp2;exact bodyPost_ret (results_tmp results31 _ _ _) rfl HF.out
 have ay:(i:Int)<(N:Int):=by omega
 obtain⟨b,off,aQ,_,e3⟩:=k2.at_ (by rw[HN.out];omega);subst aQ;obtain⟨y,hy⟩:∃ y,(rs.getD i dR).1=y:=⟨_,rfl⟩;have aY:jW (rs.getD i dR):=am.out _ (zQ rs i dR (by rw[HN.out];exact ai));have aB:y.length<=60:=by rw[<-hy];exact aY.1
 have k7:wr.cell? ⟨b,off+i*22,none⟩=some (sV y):=by
  have:=e3 i (by rw[HN.out];exact ai) 0 (sV y) (by rw[<-hy];rfl);simpa using this
 have ah:Hid ((rs.take (i+1)).filterMap (fun r=>ls1 rs p r.1)=(rs.take i).filterMap (fun r=>ls1 rs p r.1)++(ls1 rs p y).toList):=hid (by
  rw[qk dR rs i (by rw[HN.out];exact ai),WxV,<-hy];congr 1;first | done | (simp only[WxW,WxY];cases ls1 rs p (rs.getD i dR).1 <;> rfl))
 have hsz:(⟨y.toArray⟩:ByteArray).size=y.length:=Nm.txt_len y;have ae:(⟨p.toArray⟩:ByteArray).size=p.length:=Nm.txt_len p;have a6:Hid (p.length<=y.length->∀ W:World,(Instr.slice 9 (.string ⟨y.toArray⟩) none (some (.int .i64 (p.length:Int))) none).run prog W=.ok (.string ⟨(y.take p.length).toArray⟩) W):=fun aS W=>Nm.slc_to y p.length aS W
 have O:Hid (Calls prog 45 #[.pointer (some ⟨Q,0,none⟩),.string ⟨y.toArray⟩] wr fun e w'=>e=.returned (.tuple #[.agg (row .u8 (oI (rdD rs y))).toArray,.int .i64 (oN (rdD rs y))])/\Below wr.heap.size wr w'):=hid (U5 y wr k1);obtain⟨Y,HY⟩:=nm_ (⟨y.toArray⟩:ByteArray);obtain⟨yl,a7⟩:=nm_ y.length;obtain⟨pl,J⟩:=nm_ p.length;rw[a7.out] at hsz a6
 rw[J.out] at ae a6;rw[HY.out] at hsz a6 O;rw[L.out] at ae;unfold sV at k7;rw[HY.out] at k7;have b6:yl<=60:=by rw[<-a7.out];exact aB
 have b2:pl<=1000:=by rw[<-J.out];exact az
 clear k1 k2 e3 hy aj;have j:Hid (Lib.hasPrefix y p=false->(rs.take (i+1)).filterMap (fun r=>ls1 rs p r.1)=out):=fun hf=>by
  rw[ah.out,HO.out];unfold ls1;simp[hf]
 by_cases bg:yl<pl
 ·have ax:(yl:Int)<(pl:Int):=by omega
  have HF:Hid (Lib.hasPrefix y p=false):=hid (by
   rw[L0];simp only[decide_eq_false_iff_not];intro e;have:=congrArg List.length e;rw[List.length_take,a7.out,J.out] at this;omega)
  go_wp2;go_roundg (N-(i+1));case measure=>omega
  case rel=>exact⟨i+1,_,out,by go_num,rfl,rfl,by omega,by omega,HB,hid (j.out HF.out).symm⟩
 have ax:¬ (yl:Int)<(pl:Int):=by omega
 have aX:=a6.out (by omega);obtain⟨YT,a8⟩:=nm_ (⟨(y.take pl).toArray⟩:ByteArray);rw[a8.out] at aX;by_cases hpre:y.take p.length=p;rotate_left
 ·have aV:(YT.toList == ac.toList)=false:=by
   rw[<-a8.out,<-L.out,Lib.toList_data,Lib.toList_data,<-J.out];simpa using hpre
  have aZ:(YT == ac)=false:=by rw[beq_toListBytes];exact aV
  have HF:Hid (Lib.hasPrefix y p=false):=hid (by rw[L0];simpa using hpre);go_wp2;go_roundg (N-(i+1));case measure=>omega
  case rel=>exact⟨i+1,_,out,by go_num,rfl,rfl,by omega,by omega,HB,hid (j.out HF.out).symm⟩
 have b9:(YT == ac)=true:=by rw[beq_toListBytes,<-a8.out,<-L.out,Lib.toList_data,Lib.toList_data,<-J.out,hpre];exact beq_self_eq_true _
 have aw:YT=ac:=by rw[<-a8.out,<-L.out,<-J.out,hpre]
 have ao:Hid (Lib.hasPrefix y p=true):=hid (by rw[L0];simpa using hpre);subst aw;have A:=O.out;cases D:rdD rs y with
 | error k =>
  obtain⟨Z,HZ⟩:=ri zZ rfl;have bf:k ≠ 0:=by
   unfold rdD rdF at D;split at D
   ·split at D
    ·cases D;decide
    split at D
    ·cases D;decide
    cases D
   cases D;decide
  rw[D] at A;simp only[oI,oN,HZ.out.e] at A;have ad:=i86 HZ.out.i;have aK:Hid ((rs.take (i+1)).filterMap (fun r=>ls1 rs p r.1)=out):=hid (by
   rw[ah.out,HO.out];unfold ls1;simp[ao.out,D])
  have ag:Hid (∀ W,Below wr.heap.size wr W->Bx yx 22 93 w (W.alloc (.cells Z 91)) r (.slice ua un uc) out):=fun W hW=>(HB.out.carry hW).alloc _;clear D O j;go_wp2_with (first
   | (go_at_call 45;refine A.mono ?_;rintro e w1 ⟨rfl,hb⟩;have aD:=hid (ag.out w1 hb);clear hb A)
   | (refine zq rfl 91 (.tmp 8) (.tmp 44) rfl _ Z rfl rfl ad HZ.out.z HZ.out.o ?_;go_frame))
  go_roundg (N-(i+1));case measure=>omega
  case rel=>exact⟨i+1,_,out,by go_num,rfl,rfl,by omega,by omega,aD,hid aK.out.symm⟩
 | ok id =>
  have M:IdW id:=zuw am.out D;obtain⟨I,HI⟩:=ri id M.1;rw[D] at A;simp only[oI,oN,HI.out.e] at A;have ad:=i86 HI.out.i;have ak:jW (y,(id,[])):=⟨by rw[a7.out];omega,M,by simp⟩;obtain⟨E,hE⟩:∃ E,yx (y,(id,[]))=E:=⟨_,rfl⟩
  have aF:Hid (∀ W:World,(Instr.build 93 #[(0,.string Y),(1,.agg I)]).run prog W=.ok (.agg E.toArray) W):=fun W=>by rw[<-hE,<-HY.out,<-HI.out.e];exact qxX _ id M.1 W
  have aG:Hid (∀ W:World,(Instr.buildSlice 36 1 #[(0,.agg E.toArray)]).run prog W=.ok (.slice (some ⟨W.heap.size,0,none⟩) 1 1) (W.alloc (.cells E.toArray 93))):=fun W=>by rw[<-hE];exact KQ _ ak W
  have aJ:Hid (∀ W:World,Px yx 22 dR (W.alloc (.cells E.toArray 93)) (some ⟨W.heap.size,0,none⟩) 1 [(y,(id,[]))]):=fun W=>by
   have:=x5 (enc:=yx) (d:=dR) W (y,(id,[])) 93;rw[vq ak,hE] at this;exact this
  have aO:Hid ((yx (y,(id,[]))).length=22):=hid (vq ak);have aL:Hid ((rs.take (i+1)).filterMap (fun r=>ls1 rs p r.1)=out++[(y,(id,[]))]):=hid (by
   rw[ah.out,HO.out];unfold ls1;simp[ao.out,D])
  have ag:Hid (∀ W,Below wr.heap.size wr W->∃ V K,W.alloc (.cells I 91)=V/\W.heap.size=K/\V.heap[K]? = some (.cells I 91)/\Bx yx 22 93 w (V.alloc (.cells E.toArray 93)) r (.slice ua un uc) out):=fun W hW=>⟨_,_,rfl,rfl,heap_alloc_new _ _,((HB.out.carry hW).alloc _).alloc _⟩;have aI:Hid (out.length + [((y,(id,[])):Rx)].length<=1000000000):=hid (by simp;omega)
  clear D O j hE;go_wp2_with (first
   | (go_at_call 45;refine A.mono ?_;rintro e w1 ⟨rfl,hb⟩;obtain⟨V,K,hV,hK,ap,au⟩:=ag.out w1 hb;have HV:=hid hV;have HK:=hid hK;have aN:=hid ap;have aH:=hid au;clear hb A hV hK ap au)
   | (refine zq rfl 91 (.tmp 8) (.tmp 44) rfl _ I rfl rfl ad HI.out.z HI.out.o ?_;rw[HV.out,HK.out];go_frame)
   | (refine zX rfl 91 (.tmp 8) rfl _ I 91 (0,0) _ rfl aN.out underlying91 rfl ad ?_;go_frame)
   | (refine z8 rfl (.agg E.toArray) (vz 93 0 1 (.tmp 49) (.tmp 50) rfl (.string Y) (.agg I) _ rfl rfl (aF.out _)) ?_;go_frame)
   | (refine z8 rfl _ (qJ 36 (.tmp 51) rfl (.agg E.toArray) _ rfl (aG.out _)) ?_;go_frame)
   | (at_builtin;refine zy (enc:=yx) (k:=22) (d:=dR) rfl _ _ 36 93 Nj U1 z88 (by decide) (by decide) Y9 rfl r (.slice ua un uc) out rfl aH.out (some ⟨V.heap.size,0,none⟩) 1 [(y,(id,[]))] rfl (aJ.out V) (fun z hz=>by rw[Wqk.1 hz];exact aO.out) aI.out ?_;intro v3 w3 ar aR aU;have aE:=hid ar;clear ar aR aU))
  go_roundg (N-(i+1));case measure=>omega
  case rel=>exact⟨i+1,_,out++[(y,(id,[]))],by go_num,rfl,rfl,by omega,by simp;omega,aE,hid aL.out.symm⟩
end Go.Proofs.YtdnphaganajejaaGreatDoor.K
