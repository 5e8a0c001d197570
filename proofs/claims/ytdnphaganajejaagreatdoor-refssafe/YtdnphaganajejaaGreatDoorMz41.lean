import Derived.Test.YtdnphaganajejaaGreatDoorMz40
set_option linter.unusedSimpArgs false
set_option linter.unusedVariables false
set_option maxRecDepth 20000
set_option maxHeartbeats 4000000
open List renaming length_filter_le->Wvj,length_map->Wx7,mem_filter->WqX,mem_filterMap->Wvy,mem_map->Wz6
open Nat renaming le_trans->Wz9,lt_of_lt_of_le->Wq2
namespace Go.Proofs.YtdnphaganajejaaGreatDoor.K
open Go.Proofs.Tryz
open Go.RowKit
theorem Hv {rs:List Rx} {x:Str} (hx:isN x=true) {q:Kp} (h:Rk.fd rs x=some q) (j:q.2=[]):rdD rs x=.ok q.1:=by
 have hs:tgF (Rk.fd rs) x=[]:=by unfold tgF;rw[h];exact j
 unfold rdD rdF;rw[hx,Yw hs];simp[h]
theorem sm_at {rs h:List Rx} {ls j:List Ex} {x:Str} {q:Kp} (hx:isN x=true) (ok:∀ z ∈ rs,rOk z) (ok0:∀ z ∈ h,rOk z) (I:Rk.fd rs x=some q) (O:oI (rdD h x)=oI (rdD rs x)) (G:oS (tgD h x)=oS (tgD rs x)) (K:(oX (lgD h j x)).map (·.2)=(oX (lgD rs ls x)).map (·.2)) (L:oN (lgD h j x)=oN (lgD rs ls x)):Rk.fd h x=some q/\Rk.lg j x=Rk.lg ls x:=by
 have Q:lgD rs ls x=.ok (ls.filter fun e=>decide (e.1=x)):=by unfold lgD;rw[hx,I];simp
 rw[Q] at K L;cases A:Rk.fd h x with
 | none =>
  have:lgD h j x=.error 61:=by unfold lgD;rw[hx,A];simp
  rw[this] at L;cases L
 | some D =>
  have M:lgD h j x=.ok (j.filter fun e=>decide (e.1=x)):=by unfold lgD;rw[hx,A];simp
  rw[M] at K;refine⟨?_,K⟩;have t:oS (tgD rs x)=q.2:=by
   unfold tgD;rw[hx,I];by_cases e:q.2=[]
   ·simp[e,oS]
   simp[e,oS]
  have t0:oS (tgD h x)=D.2:=by
   unfold tgD;rw[hx,A];by_cases e:D.2=[]
   ·simp[e,oS]
   simp[e,oS]
  rw[t,t0] at G;have k1:=(ok _ (ux rs x q I)).2.2;have V:=(ok0 _ (ux h x D A)).2.2;have hid:D.1=q.1:=by
   by_cases e:q.2=[]
   ·have J:D.2=[]:=(by rw[G];exact e);rw[Hv hx I e,Hv hx A J] at O;exact O
   have J:¬ D.2=[]:=(by rw[G];exact e);rcases k1 with ⟨a,_⟩ | ⟨_,_,a⟩
   ·exact absurd a e
   rcases V with ⟨b,_⟩ | ⟨_,_,b⟩
   ·exact absurd b J
   simp only at a b;rw[a,b]
  obtain⟨Z,qb⟩:=q;obtain⟨Y,pb⟩:=D;simp only at G hid;rw[G,hid]
theorem qjx {rs:List Rx} {x:Str} {q:Kp} (hx:isN x=true) (h:Rk.fd rs x=some q) (j:q.2=[]):(x,(q.1,([] : Str))) ∈ lsD rs []:=by
 unfold lsD;refine Wvy.2 ⟨(x,q),ux rs x q h,?_⟩;unfold ls1;have:Lib.hasPrefix x []=true:=by simp[Lib.hasPrefix]
 rw[this,Hv hx h j];rfl
theorem ls_in {rs:List Rx} {y:Rx} (h:y ∈ lsD rs []):∃ q,(y.1,q) ∈ rs:=by
 unfold lsD at h;obtain⟨r,hr,e⟩:=Wvy.1 h;unfold ls1 at e;split at e
 ·split at e
  ·cases e;exact⟨r.2,hr⟩
  cases e
 cases e
theorem MK {a:Ds} (h:Vq a) (k:Nat):a.at_ k=a.now:=by
 unfold Ra.As.at_;rw[h.mvs,h.sf];simp[Ra.nmS]
theorem NQ {a:Ds} (h:Vq a) (D:Ra.Wf a):Ra.Old pr nw (Ra.ct a pr) a:=by
 refine⟨D,⟨rfl,fun c hc=>?_⟩,fun k j B A G=>?_⟩
 ·obtain⟨k,A⟩:=hc;rw[MK h] at A;refine .inl ?_;unfold Ra.ct;cases I:a.now pr with
  | none=>rw[I] at A;simpa using A
  | some B =>
   rw[I] at A;obtain⟨zs,s,m,hB,J,hc⟩:=A;have:=h.all B zs s hB;rw[hc,List.take_of_length_le (by omega)];simp[hB]
 rw[MK h] at A G;exact X9 (D.inj a.mvs.length nw pr B (by rw[D.full];exact G) (by rw[D.full];exact A))
theorem zjQ {k:Nat} {D A:Rk.Tb Str Kp Le} {o z:Option Str} {a:Ds} (J:Ra.Wf a) (I:Ra.Hs pr (o.map nm) (z.map nm) a) (hc:CrO k D A o z) (j t:Nat) (dec:∀ B,Decidable (∃ x,a.at_ j x=some B)):∃ (h:Option Str) (go:Bool),Ra.ct (a.crash j (fun n=>t % (n+1)) dec) pr=h.map nm/\(FlG k D h go ∨ FlG k A h go):=by
 obtain⟨_,G,_⟩:=Ra.cr_crash (p:=pr) J j (fun n=>t % (n+1)) dec (fun n=>by have:=Nat.mod_lt t (show 0<n+1 by omega);omega);exact hc _ (I.cr _ G)
theorem zjX {a h:Ds} {F:Option Str} (D:Vq h) (G:Ra.Wf h) (A:Ra.ct h pr=Ra.ct a pr) (j:Ra.ct a pr=F.map nm):Ra.Old pr nw (F.map nm) h:=by
 have:=NQ D G;rw[A,j] at this;exact this
theorem IV {S E:Nat->Prop} {N D k:Nat} {m:Rk.Tb Str Kp Le} {F:Option Str} {go:Bool} {a:Ds} (w:World) (h:Dm S N w D true a) (Y:Ra.Old pr nw (F.map nm) a) (hf:FlG k m F go) (hc:Can m) (hk:k<=100) (J:N<=90000) (L:∀ i,S i->i<w.heap.size) (K:∀ i,E i->i<w.heap.size) (ht:Tab w) (Q:Ers w) (V:Mx w) (M:Db w) (O:Ec w) :
  ∃ n,n<=201*k/\Calls prog 5 #[.pointer (some ⟨D,0,none⟩)] w (L7 S E N D F go m n w):=by
 have hl:∀ W R,Below w.heap.size w W->Rp W R D->∀ i,SrE S R E i->i<W.heap.size:=fun W R hb G i hi=>by
  rcases hi with (hi | hi) | hi
  ·exact Wq2 (L i hi) hb.size
  ·rw[hi];exact z7 G.box
  exact Wq2 (K i hi) hb.size
 have I:=hf.gf;have A:=Y.hs.now;rcases hf with ⟨rfl,rfl,rfl⟩ | ⟨bs,tl,rfl,rfl,Z,hb⟩
 ·exact⟨0,Nat.zero_le _,Iu S E N D a none false noT 0 w Y.hs I J L K (fun W R j G hR=>Ax S E N D R a W (h.below j) A G (hl W R j G) J)⟩
 refine⟨bs.flatten.length,hb.few,Iu S E N D a _ _ m _ w Y.hs I J L K (fun W R j G hR=>?_)⟩;have hlen:=hb.len hk;have:=Aj S E N D R a bs tl W (h.below j) A Z G (hl W R j G) J hb.ne hb.ok hb.g (by have:=hb.few;omega) (by omega) (by rw[hb.m];exact hc) (ht.below j) (Q.below j) (V.below j) (M.below j) (O.below j);rw[hb.m] at this
 exact this
theorem MV {S XE:Nat->Prop} {N D X k:Nat} {m:Rk.Tb Str Kp Le} {F:Option Str} {go:Bool} {a:Ds} {L v2:Value} (w:World) (h:Dm S N w D true a) (ho:Ra.Old pr nw (F.map nm) a) (hf:FlG k m F go) (hc:Can m) (hk:k<=100) (V:N<=90000) (Y:∀ i,S i->i<w.heap.size) (Q:∀ i,XE i->i<w.heap.size) (ht:Tab w) (J:Ers w) (K:Mx w) (G:Db w) (I:Ec w) (Z:w.heap[X]? = some (.cells #[.pointer (some ⟨D,0,none⟩),L,v2] 41 (0,0))) (A:¬ S X) (j:XE X) :
  ∃ n,n<=201*k/\Calls prog 8 #[.pointer (some ⟨X,0,none⟩)] w (zju S XE N D X F go m n v2 w):=by
 obtain⟨n,M,O⟩:=IV (E:=XE) w h ho hf hc hk V Y Q ht J K G I;exact⟨n,M,zjZ S XE N D X F go m n L v2 w O Z A j⟩
attribute [local instance low] Classical.propDecidable
def Sm (rs0:List Rx) (ls0:List Ex) (rs:List Rx) (ls:List Ex) (x:Str):Prop:=oI (rdD rs0 x)=oI (rdD rs x)/\oN (rdD rs0 x)=oN (rdD rs x)/\oS (tgD rs0 x)=oS (tgD rs x)/\oN (tgD rs0 x)=oN (tgD rs x)/\(oX (lgD rs0 ls0 x)).map (·.2)=(oX (lgD rs ls x)).map (·.2)/\oN (lgD rs0 ls0 x)=oN (lgD rs ls x)
set_option maxHeartbeats 16000000 in
theorem zjJ {S:Nat->Prop} {R D t n:Nat} {go un:Bool} {T:Ts} {G Q k:Nat} {v1 v2:Value} {rs h:List Rx} {ls J:List Ex} (x:Str) (w:World) (hR:Rf w R D t go un) (hT:Tt S w t n T) (hD:Dq G w Q v1 v2 rs ls) (hi:Ib k (aT T) h J) (h1:∀ x ∈ h,jW x) (h2:∀ x ∈ J,X7 x) (h3:J.length<=1000000) (hm:Mx w) (hg:C00 w) :
    Calls prog 32 #[.pointer (some ⟨R,0,none⟩),.pointer (some ⟨Q,0,none⟩),sV x] w fun e w'=>e=.returned (.bool (decide (Sm h J rs ls x)))/\Below w.heap.size w w':=by
  obtain⟨r,HR⟩:=nm_ w.heap.size
  have I:Hid (∀ W,Below r w W->Rf W R D t go un/\Tt S W t n T/\Dq G W Q v1 v2 rs ls/\Mx W/\C00 W):=fun W hW=>by
    have hb:Below w.heap.size w W:=by rw[HR.out];exact hW
    exact⟨⟨(hb.block R (z7 hR.box)).trans hR.box⟩,hT.below hb,hD.below hb,hm.below hb,hg.below hb⟩
  have K:Hid (∀ W W',Below r w W->Below W.heap.size W W'->Below r w W'):=fun W W' h1 h2=>h1.trans (h2.mono (by have:=h1.size;have:=HR.out;omega))
  obtain⟨Z,M⟩:=ri (oI (rdD h x)) (My h1 x).1
  obtain⟨V,a7⟩:=ri (oI (rdD rs x)) (My hD.ok1 x).1
  have Y:=hid (i86 a7.out.i)
  have aR:Hid ((20:Nat)=Z.size):=hid (by rw[<-M.out.z];rfl)
  have aQ:Hid ((20:Nat)=V.size):=hid (by rw[<-a7.out.z];rfl)
  obtain⟨c1,aE⟩:∃ b,decide (oI (rdD h x)=oI (rdD rs x))=b:=⟨_,rfl⟩
  have aN:Hid (∀ W:World,(Op.equalIn 10000 116 (.agg Z) (.agg V)).run prog W=.ok c1 W):=fun W=>by rw[<-M.out.e,<-a7.out.e,<-aE];exact KZ 116 Y8 _ _ (My h1 x).1 (My hD.ok1 x).1 W
  obtain⟨E1,ar⟩:=nm_ (oE (rdD h x))
  obtain⟨k1,az⟩:=nm_ (oN (rdD h x))
  obtain⟨j1,aw⟩:=nm_ (oN (rdD rs x))
  obtain⟨E2,au⟩:=nm_ (oE (tgD h x))
  obtain⟨k2,aA⟩:=nm_ (oN (tgD h x))
  obtain⟨j2,ax⟩:=nm_ (oN (tgD rs x))
  obtain⟨E3,av⟩:=nm_ (oE (lgN T x))
  obtain⟨k3,aB⟩:=nm_ (oN (lgN T x))
  obtain⟨j3,ay⟩:=nm_ (oN (lgD rs ls x))
  obtain⟨B,HB⟩:=nm_ (⟨(oS (tgD h x)).toArray⟩:ByteArray)
  obtain⟨B2,ap⟩:=nm_ (⟨(oS (tgD rs x)).toArray⟩:ByteArray)
  obtain⟨c5,ad⟩:∃ b,decide ((oX (lgD h J x)).map (·.2)=(oX (lgD rs ls x)).map (·.2))=b:=⟨_,rfl⟩
  obtain⟨bb,aD⟩:∃ b,decide (Sm h J rs ls x)=b:=⟨_,rfl⟩
  have A:Hid (bb=true ↔ c1=true/\k1=j1/\B.toList=B2.toList/\k2=j2/\c5=true/\k3=j3):=hid (by
    rw[<-aD,<-aE,<-ad,<-HB.out,<-ap.out,Lib.toList_data,Lib.toList_data,<-az.out,<-aw.out,<-aA.out,<-ax.out,<-aB.out,<-ay.out,(hi.lgn rfl x).2]
    simp only[decide_eq_true_eq]
    exact Iff.rfl)
  rw[aD]
  obtain⟨X,HX⟩:=nm_ (⟨x.toArray⟩:ByteArray)
  have aC:Hid (∀ W,Below r w W->Calls prog 7 #[E1] W fun e w'=>e=.returned (.int .i64 k1)/\Below r w w'):=fun W hW=>by
    rw[<-ar.out,<-az.out]
    exact(AQ (rdD h x) W (I.out W hW).2.2.2.2).mono fun e w' ⟨h1,h2⟩=>⟨h1,K.out W w' hW h2⟩
  have a8:Hid (∀ W,Below r w W->Calls prog 7 #[E2] W fun e w'=>e=.returned (.int .i64 k2)/\Below r w w'):=fun W hW=>by
    rw[<-au.out,<-aA.out]
    exact(AQ (tgD h x) W (I.out W hW).2.2.2.2).mono fun e w' ⟨h1,h2⟩=>⟨h1,K.out W w' hW h2⟩
  have O:Hid (∀ W,Below r w W->Calls prog 7 #[E3] W fun e w'=>e=.returned (.int .i64 k3)/\Below r w w'):=fun W hW=>by
    rw[<-av.out,<-aB.out]
    exact(AQ (lgN T x) W (I.out W hW).2.2.2.2).mono fun e w' ⟨h1,h2⟩=>⟨h1,K.out W w' hW h2⟩
  have HC:Hid (Calls prog 68 #[.pointer (some ⟨R,0,none⟩),.string X] w fun e w1=>e=.returned (.tuple #[.agg Z,E1])/\∃ W2,w1.alloc (.cells Z 116)=W2/\Calls prog 45 #[.pointer (some ⟨Q,0,none⟩),.string X] W2 fun e w3=>e=.returned (.tuple #[.agg V,.int .i64 j1])/\∃ W4,w3.alloc (.cells V 91)=W4/\Calls prog 69 #[.pointer (some ⟨R,0,none⟩),.string X] W4 fun e w5=>e=.returned (.tuple #[.string B,E2])/\Calls prog 70 #[.pointer (some ⟨Q,0,none⟩),.string X] w5 fun e w6=>e=.returned (.tuple #[.string B2,.int .i64 j2])/\Calls prog 71 #[.pointer (some ⟨R,0,none⟩),.string X] w6 fun e w7=>∃ va,e=.returned (.tuple #[va,E3])/\Calls prog 64 #[.pointer (some ⟨Q,0,none⟩),.string X] w7 fun e w8=>∃ vb,e=.returned (.tuple #[vb,.int .i64 j3])/\Calls prog 72 #[va,vb] w8 fun e w9=>e=.returned (.bool c5)/\w9.heap[w1.heap.size]? = some (.cells Z 116)/\w9.heap[w3.heap.size]? = some (.cells V 91)/\Below r w w9):=hid (by
    have bF:(.string X:Value)=sV x:=by rw[<-HX.out];rfl
    rw[bF]
    have q1:=zz2 S R D t n go un T x w hR hT hm
    refine q1.mono ?_
    rintro e w1 ⟨he,bu⟩
    rw[(hi.rdt rfl x).1,Fw,M.out.e,ar.out] at he
    have b1:Below r w w1:=by rw[<-HR.out];exact bu
    have b2:Below r w (w1.alloc (.cells Z 116)):=K.out _ _ b1 ((Below.refl _ w1).alloc (Nat.le_refl _) _)
    refine⟨he,_,rfl,(U5 x _ (I.out _ b2).2.2.1).mono ?_⟩
    rintro e3 w3 ⟨bk,bh⟩
    rw[a7.out.e,aw.out] at bk
    have b3:=K.out _ _ b2 bh
    have b4:Below r w (w3.alloc (.cells V 91)):=K.out _ _ b3 ((Below.refl _ w3).alloc (Nat.le_refl _) _)
    refine⟨bk,_,rfl,(Bz S R D t n go un T x _ (I.out _ b4).1 (I.out _ b4).2.1 (I.out _ b4).2.2.2.1).mono ?_⟩
    rintro e5 w5 ⟨aj,bi⟩
    rw[hi.tg rfl x] at aj
    unfold sV at aj
    rw[HB.out,au.out] at aj
    have b5:=K.out _ _ b4 bi
    refine⟨aj,(M9 x w5 (I.out _ b5).2.2.1).mono ?_⟩
    rintro e6 w6 ⟨aF,bj⟩
    unfold sV at aF
    rw[ap.out,ax.out] at aF
    have b6:=K.out _ _ b5 bj
    refine⟨aF,(qq6 S R D t n go un T x w6 (I.out _ b6).1 (I.out _ b6).2.1 (I.out _ b6).2.2.2.1).mono ?_⟩
    rintro e7 w7 ⟨va,bm,a6⟩
    rw[av.out] at bm
    have b7:=K.out _ _ b6 a6.below
    refine⟨va,bm,(Mz x w7 (I.out _ b7).2.2.1).mono ?_⟩
    rintro e8 w8 ⟨vb,aG,bo,ai⟩
    rw[ay.out] at aG
    have b8:=K.out _ _ b7 ai
    have ag:∀ y ∈ oX (lgD rs ls x),X7 y:=fun y hy=>by
      unfold lgD at hy
      split at hy
      · split at hy
        · exact hD.ok2 y (WqX.1 hy).1
        · cases hy
      · cases hy
    have hlen:(oX (lgD rs ls x)).length<=1000000:=by
      unfold lgD
      split
      · split
        · exact Wz9 (Wvj _ _) hD.few.2
        · simp[oX]
      · simp[oX]
    obtain⟨a2,c2,bE,be,bp⟩:=uX (enc:=yj) (d:=dE) bo (fun y hy=>yX (ag y hy))
    subst bE
    have bn:∀ y ∈ oX (lgD h J x),X7 y:=fun y hy=>by
      unfold lgD at hy
      split at hy
      · split at hy
        · exact h2 y (WqX.1 hy).1
        · cases hy
      · cases hy
    have ae:((oX (lgD h J x)).map (·.2)).length<=1000000:=by
      rw[Wx7]
      unfold lgD
      split
      · split
        · exact Wz9 (Wvj _ _) h3
        · simp[oX]
      · simp[oX]
    have ah:w8.ownsRow w6.heap.size 133 45 va ((oX (lgD h J x)).map (·.2)).length (((oX (lgD h J x)).map (·.2)).flatMap qw):=by
      have:=vj a6.own ai
      rw[(hi.lgn rfl x).1] at this
      exact this
    have bB:∀ p:Addr,a2=some p->va.ownBlock ≠ some p.block/\p.block<w8.heap.size:=fun p hp=>⟨fun e=>by
      have h1:=(yu a6.own p.block e).2
      have h2:=(bp p hp).1
      omega,(bp p hp).2⟩
    have ak:∀ y ∈ (oX (lgD h J x)).map (·.2),vY y:=fun y hy=>by
      obtain⟨z,hz,rfl⟩:=Wz6.1 hy
      exact(bn z hz).2
    obtain⟨ys,bG⟩:∃ ys,(oX (lgD h J x)).map (·.2)=ys:=⟨_,rfl⟩
    obtain⟨ms,bA⟩:∃ ms,oX (lgD rs ls x)=ms:=⟨_,rfl⟩
    rw[bG] at ae ah ak ad
    rw[bA] at hlen be ag ad aG
    have bq:=Mw w6.heap.size va ys ms a2 c2 w8 ah be bB ak ag hlen ae
    rw[ad] at bq
    refine⟨_,aG,bq.mono ?_⟩
    · rintro e9 w9 ⟨rfl,ac⟩
      have br:∀ i,i<w6.heap.size->w9.heap[i]? = w8.heap[i]? := fun i hi=>ac.blk i (by have:=a6.below.size;have:=ai.size;omega) (fun e=>by
        have:=(yu a6.own i e).1
        omega)
      have bC:w1.heap.size<(w1.alloc (.cells Z 116)).heap.size:=by simp
      have bD:w3.heap.size<(w3.alloc (.cells V 91)).heap.size:=by simp
      have g1:(w1.alloc (.cells Z 116)).heap[w1.heap.size]? = some (.cells Z 116):=heap_alloc_new _ _
      have g3:(w3.alloc (.cells V 91)).heap[w3.heap.size]? = some (.cells V 91):=heap_alloc_new _ _
      have f3:w3.heap[w1.heap.size]? = some (.cells Z 116):=(bh.block _ bC).trans g1
      have f4:(w3.alloc (.cells V 91)).heap[w1.heap.size]? = some (.cells Z 116):=by rw[heap_alloc_old _ _ (z7 f3)];exact f3
      have up:∀ j o,j<(w3.alloc (.cells V 91)).heap.size->(w3.alloc (.cells V 91)).heap[j]? = some o->w9.heap[j]? = some o:=fun j o hj ho=>by
        have e5:=(bi.block j hj).trans ho
        have e6:=(bj.block j (z7 e5)).trans e5
        have e7:=(a6.below.block j (z7 e6)).trans e6
        have e8:=(ai.block j (z7 e7)).trans e7
        exact(br j (z7 e6)).trans e8
      refine⟨rfl,up _ _ (z7 f4) f4,up _ _ bD g3,?_⟩
      refine⟨ac.os.trans b8.os,ac.tape.trans b8.tape,ac.output.trans b8.output,Wz9 b8.size ac.size,fun i hi=>?_⟩
      exact(br i (by have:=b6.size;have:=HR.out;omega)).trans (b8.block i hi))
  rw[HR.out]
  unfold sV
  rw[HX.out]
  clear hR hT hD hi hm hg h1 h2 h3 aE ad aD
  go_enter func32,ntmps32
  go_wp2_with (first
    | (go_at_call 68;refine HC.out.mono ?_;rintro e w1 ⟨rfl,W2,bf,aS⟩;have aO:=hid bf;have aH:=hid aS;clear bf aS)
    | (refine zq rfl 116 (.tmp 7) (.tmp 24) rfl _ Z rfl rfl M.out.i aR.out M.out.o ?_;rw[aO.out];go_frame)
    | (go_at_call 45;refine aH.out.mono ?_;rintro e w3 ⟨rfl,W4,bg,aU⟩;have aP:=hid bg;have aI:=hid aU;clear bg aU)
    | (refine zq rfl 91 (.tmp 9) (.tmp 30) rfl _ V rfl rfl Y.out aQ.out a7.out.o ?_;rw[aP.out];go_frame)
    | (go_at_call 69;refine aI.out.mono ?_;rintro e w5 ⟨rfl,aV⟩;have aJ:=hid aV;clear aV)
    | (go_at_call 70;refine aJ.out.mono ?_;rintro e w6 ⟨rfl,aW⟩;have aK:=hid aW;clear aW)
    | (go_at_call 71;refine aK.out.mono ?_;rintro e w7 ⟨va,rfl,aX⟩;have aL:=hid aX;clear aX)
    | (go_at_call 64;refine aL.out.mono ?_;rintro e w8 ⟨vb,rfl,c37⟩;have aM:=hid c37;clear c37)
    | (go_at_call 72;refine aM.out.mono ?_;rintro e w9 ⟨rfl,aY,aZ,b9⟩;have am:=hid aY;have ao:=hid aZ;have B9:=hid b9;have bz:=aN.out w9;clear aY aZ b9;refine Hid.out ?_))
  refine hid ?_
  clear HC aH aI aJ aK aL aM aO aP I K ar au av az aA aB aw ax ay HB ap HX aN aR aQ
  by_cases d1:c1=true
  case neg =>
    have L:bb=false:=by
      cases hb:bb with
      | false=>rfl
      | true=>exact absurd (A.out.1 hb).1 d1
    subst L
    clear A aC a8 O
    have d1:c1=false:=by simpa using d1
    subst d1
    go_wp2_with (first
      | (refine zX rfl 116 (.tmp 7) rfl _ Z 116 (0,0) _ rfl am.out underlying116 rfl M.out.i ?_;go_frame)
      | (refine zX rfl 91 (.tmp 9) rfl _ V 91 (0,0) _ rfl ao.out underlying91 rfl Y.out ?_;go_frame))
    exact bodyPost_ret (results_tmp results32 _ _ _) rfl ⟨rfl,B9.out⟩
  subst d1
  go_wp2_with (first
      | (go_at_call 7;refine(aC.out _ B9.out).mono ?_;rintro e wa ⟨rfl,ba⟩;have BA:=hid ba;clear ba aC bz;refine Hid.out ?_)
      | (refine zX rfl 116 (.tmp 7) rfl _ Z 116 (0,0) _ rfl am.out underlying116 rfl M.out.i ?_;go_frame)
      | (refine zX rfl 91 (.tmp 9) rfl _ V 91 (0,0) _ rfl ao.out underlying91 rfl Y.out ?_;go_frame))
  refine hid ?_
  clear am ao M Y
  by_cases d2:k1=j1
  case neg =>
    have L:bb=false:=by
      cases hb:bb with
      | false=>rfl
      | true=>exact absurd (A.out.1 hb).2.1 d2
    subst L
    clear A
    clear a8 O
    go_wp2
    exact bodyPost_ret (results_tmp results32 _ _ _) rfl ⟨rfl,BA.out⟩
  subst d2
  by_cases d3:B.toList=B2.toList
  case neg =>
    have L:bb=false:=by
      cases hb:bb with
      | false=>rfl
      | true=>exact absurd (A.out.1 hb).2.2.1 d3
    subst L
    clear A
    clear a8 O
    go_wp2
    exact bodyPost_ret (results_tmp results32 _ _ _) rfl ⟨rfl,BA.out⟩
  go_wp2_with (go_at_call 7;refine(a8.out _ BA.out).mono ?_;rintro e wb ⟨rfl,bb⟩;have BB:=hid bb;clear bb a8;refine Hid.out ?_)
  refine hid ?_
  by_cases d4:k2=j2
  case neg =>
    have L:bb=false:=by
      cases hb:bb with
      | false=>rfl
      | true=>exact absurd (A.out.1 hb).2.2.2.1 d4
    subst L
    clear A
    clear O
    go_wp2
    exact bodyPost_ret (results_tmp results32 _ _ _) rfl ⟨rfl,BB.out⟩
  subst d4
  by_cases d5:c5=true
  case neg =>
    have L:bb=false:=by
      cases hb:bb with
      | false=>rfl
      | true=>exact absurd (A.out.1 hb).2.2.2.2.1 d5
    subst L
    clear A
    clear O
    have d5:c5=false:=by simpa using d5
    subst d5
    go_wp2
    exact bodyPost_ret (results_tmp results32 _ _ _) rfl ⟨rfl,BB.out⟩
  subst d5
  go_wp2_with (go_at_call 7;refine(O.out _ BB.out).mono ?_;rintro e wc ⟨rfl,bc⟩;have BC:=hid bc;clear bc O;refine Hid.out ?_)
  refine hid ?_
  by_cases d6:k3=j3
  case neg =>
    have L:bb=false:=by
      cases hb:bb with
      | false=>rfl
      | true=>exact absurd (A.out.1 hb).2.2.2.2.2 d6
    subst L
    clear A
    go_wp2
    have d6:(k3 == j3)=false:=by simpa using d6
    exact bodyPost_ret (results_tmp results32 _ _ _) rfl ⟨congrArg (fun b=>Ending.returned (Value.bool b)) d6,BC.out⟩
  have bw:bb=true:=A.out.2 (by simp[d3,d6])
  subst d6 bw
  clear A
  go_wp2
  exact bodyPost_ret (results_tmp results32 _ _ _) rfl ⟨rfl,BC.out⟩
end Go.Proofs.YtdnphaganajejaaGreatDoor.K
namespace Go.Proofs.YtdnphaganajejaaGreatDoor.K
open Go.Proofs.Tryz
open Go.RowKit
attribute [local instance low] Classical.propDecidable
theorem results13:f13.results=#[.tmp 4]:=by kernel_rfl
theorem IW (rs:List Rx) (p:Str):(lsD rs p).length<=rs.length:=by unfold lsD;exact List.length_filterMap_le _ _
theorem zjK {rs:List Rx} (h:∀ x ∈ rs,jW x) (p:Str):∀ y ∈ lsD rs p,jW y:=fun y hy=>by
 unfold lsD at hy;obtain⟨r,hr,e⟩:=Wvy.1 hy;unfold ls1 at e;split at e
 ·split at e
  ·rename_i id hid;cases e
   exact⟨(h r hr).1,zuw h hid,by simp⟩
  cases e
 cases e
theorem zq2 {S XE:Nat->Prop} {N D R:Nat} {q:Bool} {o z:Option Str} {go un:Bool} {t n:Nat} {T:Ts} {G Q k:Nat} {v1 v2:Value} {rs j:List Rx} {ls ad:List Ex} (p:Str) (hp:p.length<=1000) (w:World) (h:Pv S XE N D R w q o z go un t n T) (Z:Dq G w Q v1 v2 rs ls) (hi:Ib k (aT T) j ad) (h1:∀ x ∈ j,jW x) (hk:k<=100) (hn:n<=100000) :
  Calls prog 30 #[.pointer (some ⟨R,0,none⟩),sV p] w fun e w1=>∃ L,e=.returned L/\Calls prog 31 #[.pointer (some ⟨Q,0,none⟩),sV p] w1 fun e w2=>∃ vb,e=.returned vb/\Calls prog 29 #[L,vb] w2 fun e w3=>e=.returned (.bool (decide (nxs (lsD j p)=nxs (lsD rs p))))/\Below w.heap.size w w3:=by
 refine(zzX S XE N D R w q o z go un t n T p h hn (fun ss hs=>by have:=hi.few rfl hs;omega)).mono ?_;rintro e w1 ⟨L,ss,rfl,a8,I⟩;refine⟨L,rfl,(zzJ p hp w1 (Z.below I.below)).mono ?_⟩;rintro e2 w2 ⟨vb,rfl,K⟩;have M:=zjK Z.ok1 p;obtain⟨a2,c2,ac,a6,Y⟩:=uX (enc:=yx) (d:=dR) K.own (fun y hy=>vq (M y hy));subst ac;have O:=zjK h1 p
 have a7:(nxs (lsD j p)).length<=1000000:=by
  rw[Wx7];have:=IW j p;have:=hi.n1;omega
 have V:w2.ownsRow w.heap.size 156 21 L (nxs (lsD j p)).length ((nxs (lsD j p)).flatMap jj):=by
  have:=vj I.own K.below;rw[hi.list rfl a8 p] at this;exact this
 refine⟨_,rfl,(L3 w.heap.size L (nxs (lsD j p)) (lsD rs p) a2 c2 w2 V a6 (fun q hq=>⟨fun e=>?_,(Y q hq).2⟩) (fun y hy=>by obtain⟨x,hx,rfl⟩:=Wz6.1 hy;exact(O x hx).2.1) M (by have:=IW rs p;have:=Z.few.1;omega) a7).mono ?_⟩
 ·have h1:=(yu I.own q.block e).2;have h2:=(Y q hq).1;omega
 rintro e3 w3 ⟨rfl,J⟩;have A:Below w.heap.size w w2:=I.below.trans (K.below.mono I.below.size);exact⟨rfl,J.os.trans A.os,J.tape.trans A.tape,J.output.trans A.output,Wz9 A.size J.size,fun i hi=>(J.blk i (by have:=A.size;omega) (fun e=>by have:=(yu I.own i e).1;omega)).trans (A.block i hi)⟩
def Ta (rs0:List Rx) (ls0:List Ex) (rs:List Rx) (ls:List Ex):Prop:=nxs (lsD rs0 [])=nxs (lsD rs [])/\nxs (lsD rs0 [114,101,102,115,47,104,101,97,100,115,47])=nxs (lsD rs [114,101,102,115,47,104,101,97,100,115,47])/\(∀ i,i<rs.length->Sm rs0 ls0 rs ls (rs.getD i dR).1)/\Sm rs0 ls0 rs ls [72,69,65,68]/\Sm rs0 ls0 rs ls [114,101,102,115,47,104,101,97,100,115,47,97]/\Sm rs0 ls0 rs ls [110,111,32,110,97,109,101]
theorem Ta.self (rs:List Rx) (ls:List Ex):Ta rs ls rs ls:=⟨rfl,rfl,fun _ _=>⟨rfl,rfl,rfl,rfl,rfl,rfl⟩,⟨rfl,rfl,rfl,rfl,rfl,rfl⟩,⟨rfl,rfl,rfl,rfl,rfl,rfl⟩,⟨rfl,rfl,rfl,rfl,rfl,rfl⟩⟩
set_option maxHeartbeats 8000000 in
theorem ZK {S XE:Nat->Prop} {N D R:Nat} {q:Bool} {o z:Option Str} {go un:Bool} {t n:Nat} {T:Ts} {G Q k:Nat} {v1 v2:Value} {rs A:List Rx} {ls I:List Ex} (w:World) (h:Pv S XE N D R w q o z go un t n T) (hD:Dq G w Q v1 v2 rs ls) (hi:Ib k (aT T) A I) (h1:∀ x ∈ A,jW x) (h2:∀ x ∈ I,X7 x) (h3:I.length<=1000000) (hk:k<=100) (hn:n<=100000) (hm:Mx w) (hg:C00 w) :
  Calls prog 13 #[.pointer (some ⟨R,0,none⟩),.pointer (some ⟨Q,0,none⟩)] w fun e w'=>e=.returned (.bool (decide (Ta A I rs ls)))/\Below w.heap.size w w':=by
 obtain⟨r,HR⟩:=nm_ w.heap.size;have ao:Hid (∀ W,Below r w W->Pv S XE N D R W q o z go un t n T/\Dq G W Q v1 v2 rs ls/\Mx W/\C00 W):=fun W L=>by
  have hb:Below w.heap.size w W:=by rw[HR.out];exact L
  exact⟨h.below hb,hD.below hb,hm.below hb,hg.below hb⟩
 have aJ:Hid (∀ W W',Below r w W->Below W.heap.size W W'->Below r w W'):=fun W W' h1 h2=>h1.trans (h2.mono (by have:=h1.size;have:=HR.out;omega))
 have ak:Hid (∀ p:Str,p.length<=1000->∀ W,Below r w W->Calls prog 30 #[.pointer (some ⟨R,0,none⟩),sV p] W fun e w1=>∃ va,e=.returned va/\Calls prog 31 #[.pointer (some ⟨Q,0,none⟩),sV p] w1 fun e w2=>∃ vb,e=.returned vb/\Calls prog 29 #[va,vb] w2 fun e w3=>e=.returned (.bool (decide (nxs (lsD A p)=nxs (lsD rs p))))/\Below r w w3):=fun p hp W L=>by
  refine(zq2 p hp W (ao.out W L).1 (ao.out W L).2.1 hi h1 hk hn).mono ?_;rintro e w1 ⟨va,he,c⟩;refine⟨va,he,c.mono ?_⟩;rintro e w2 ⟨vb,he,c⟩;refine⟨vb,he,c.mono ?_⟩;rintro e w3 ⟨he,hb⟩;exact⟨he,aJ.out W w3 L hb⟩
 have a6:Hid (∀ (x:Str) W,Below r w W->Calls prog 32 #[.pointer (some ⟨R,0,none⟩),.pointer (some ⟨Q,0,none⟩),sV x] W fun e w'=>e=.returned (.bool (decide (Sm A I rs ls x)))/\Below r w w'):=fun x W L=>by
  obtain⟨g1,g2,g3,g4⟩:=ao.out W L;exact(zjJ x W g1.rf g1.tt g2 hi h1 h2 h3 g3 g4).mono fun e w' ⟨h1,h2⟩=>⟨h1,aJ.out W w' L h2⟩
 have ac:=ak.out [] (by simp) w (Below.refl _ _);have ad:=fun W (L:Below r w W)=>ak.out [114,101,102,115,47,104,101,97,100,115,47] (by simp) W L;have hA1:=fun W (L:Below r w W)=>a6.out [72,69,65,68] W L;have a7:=fun W (L:Below r w W)=>a6.out [114,101,102,115,47,104,101,97,100,115,47,97] W L;have a8:=fun W (L:Below r w W)=>a6.out [110,111,32,110,97,109,101] W L
 obtain⟨b1,ar⟩:∃ b,decide (nxs (lsD A [])=nxs (lsD rs []))=b:=⟨_,rfl⟩;obtain⟨b2,au⟩:∃ b,decide (nxs (lsD A [114,101,102,115,47,104,101,97,100,115,47])=nxs (lsD rs [114,101,102,115,47,104,101,97,100,115,47]))=b:=⟨_,rfl⟩;obtain⟨b3,av⟩:∃ b,decide (Sm A I rs ls [72,69,65,68])=b:=⟨_,rfl⟩
 obtain⟨b4,aw⟩:∃ b,decide (Sm A I rs ls [114,101,102,115,47,104,101,97,100,115,47,97])=b:=⟨_,rfl⟩;obtain⟨b5,ax⟩:∃ b,decide (Sm A I rs ls [110,111,32,110,97,109,101])=b:=⟨_,rfl⟩;obtain⟨bb,ay⟩:∃ b,decide (Ta A I rs ls)=b:=⟨_,rfl⟩;obtain⟨M,HN⟩:=nm_ rs.length
 have K:Hid (bb=true ↔ b1=true/\b2=true/\(∀ i,i<M->Sm A I rs ls (rs.getD i dR).1)/\b3=true/\b4=true/\b5=true):=hid (by
  rw[<-ay,<-ar,<-au,<-av,<-aw,<-ax,<-HN.out];simp only[decide_eq_true_eq];exact Iff.rfl)
 rw[ar] at ac;rw[au] at ad;rw[av] at hA1;rw[aw] at a7;rw[ax] at a8;rw[ay];unfold sV at ac ad hA1 a7 a8;have aH:=hid ac;have aI:=hid ad;have aD:=hid hA1;have aE:=hid a7;have aF:=hid a8;have aU:M<=100000:=by rw[<-HN.out];exact hD.few.1
 obtain⟨qa,qc,aS,aP,_,aA⟩:=hD.px1;have aQ:Hid (∀ W,Below r w W->W.cell? ⟨Q,0,none⟩=some (.slice qa M qc)/\Px yx 22 dR W qa qc rs):=fun W L=>by
  have hb:Below w.heap.size w W:=by rw[HR.out];exact L
  exact⟨by rw[<-HN.out];exact(hb.cell (p:=⟨Q,0,none⟩) (Nm.cell_lt aA)).trans aA,aP.below hb⟩
 rw[HR.out];clear h hD hi hm hg aP aA aS ak h1 h2 h3 ar au av aw ax ay ac ad hA1 a7 a8;go_enter func13,ntmps13;go_wp2_with (first
  | (go_at_call 30;refine aH.out.mono ?_;rintro e w1 ⟨va,rfl,aL⟩;have aC:=hid aL;clear aL aH)
  | (go_at_call 31;refine aC.out.mono ?_;rintro e w2 ⟨vb,rfl,aK⟩;have aB:=hid aK;clear aK aC)
  | (go_at_call 29;refine aB.out.mono ?_;rintro e w3 ⟨rfl,b3⟩;have B3:=hid b3;clear b3 aB)
  | (go_at_call 30;refine(aI.out _ B3.out).mono ?_;rintro e w4 ⟨aX,rfl,ai⟩;have ag:=hid ai;clear ai aI)
  | (go_at_call 31;refine ag.out.mono ?_;rintro e w5 ⟨aY,rfl,ah⟩;have ae:=hid ah;clear ah ag)
  | (go_at_call 29;refine ae.out.mono ?_;rintro e w6 ⟨rfl,b6⟩;have B6:=hid b6;clear b6 ae;refine Hid.out ?_))
 refine hid ?_;by_cases d1:b1=true;case neg =>
  have J:bb=false:=by
   cases hb:bb with
   | false=>rfl
   | true=>exact absurd (K.out.1 hb).1 d1
  have d1:b1=false:=by simpa using d1
  subst d1 J;clear K;go_wp2;exact bodyPost_ret (results_tmp results13 _ _ _) rfl ⟨rfl,B6.out⟩
 by_cases d2:b2=true;case neg =>
  have J:bb=false:=by
   cases hb:bb with
   | false=>rfl
   | true=>exact absurd (K.out.1 hb).2.1 d2
  have d2:b2=false:=by simpa using d2
  subst d1 d2 J;clear K;go_wp2;exact bodyPost_ret (results_tmp results13 _ _ _) rfl ⟨rfl,B6.out⟩
 subst d1 d2;go_wp2;go_loopg [7] M (fun q iv wr=>∃ i:Nat,iv=.int .i64 i/\q=M-i/\i<=M/\Hid (Below r w wr)/\Hid (∀ j,j<i->Sm A I rs ls (rs.getD j dR).1));case atStart=>exact⟨0,rfl,rfl,Nat.zero_le _,B6,hid (fun j hj=>absurd hj (Nat.not_lt_zero j))⟩
 obtain⟨i,rfl,hq,aW,aj,Z⟩:=hrel;obtain⟨aV,ap⟩:=aQ.out wr aj.out;by_cases aN:i<M
 ·have aO:(i:Int)<(M:Int):=by omega
  obtain⟨b,off,aR,_,e3⟩:=ap.at_ (by rw[HN.out];omega);subst aR;have az:=e3 i (by rw[HN.out];exact aN) 0 _ rfl;have O:=a6.out (rs.getD i dR).1 wr aj.out;obtain⟨Y,HY⟩:=nm_ (⟨((rs.getD i dR).1).toArray⟩:ByteArray);unfold sV at az O;rw[HY.out] at az O;rw[Nat.add_zero] at az;clear ap e3;by_cases hs:Sm A I rs ls (rs.getD i dR).1
  ·rw[decide_eq_true hs] at O;have am:Hid (∀ j,j<i+1->Sm A I rs ls (rs.getD j dR).1):=hid fun j hj=>by
    by_cases e:j=i
    ·rw[e];exact hs
    exact Z.out j (by omega)
   clear hs;go_wp2_with (go_at_call 32;refine O.mono ?_;rintro e w7 ⟨rfl,b7⟩;have B7:=hid b7;clear b7 O)
   go_roundg (M-(i+1));case measure=>omega
   case rel=>exact⟨i+1,by go_num,rfl,by omega,B7,am⟩
  rw[decide_eq_false hs] at O;have J:bb=false:=by
   cases hb:bb with
   | false=>rfl
   | true=>exact absurd ((K.out.1 hb).2.2.1 i aN) hs
  subst J;clear hs K;go_wp2_with (go_at_call 32;refine O.mono ?_;rintro e w7 ⟨rfl,b7⟩;have B7:=hid b7;clear b7 O)
  exact bodyPost_ret (results_tmp results13 _ _ _) rfl ⟨rfl,B7.out⟩
 have aO:¬ (i:Int)<(M:Int):=by omega
 obtain rfl:i=M:=by omega
 have aG:Hid (bb=(b3 && (b4 && b5))):=hid (by
  have h:=K.out;have hp:=Z.out;have aM:bb=true ↔ (b3=true/\b4=true/\b5=true):=⟨fun e=>(h.1 e).2.2.2,fun e=>h.2 ⟨by first | rfl | trivial,by first | rfl | trivial,hp,e⟩⟩;clear h hp Z K;revert aM;cases b3 <;> cases b4 <;> cases b5 <;> cases bb <;> decide)
 clear ap K;go_wp2_with (first
  | (go_at_call 32;refine(aD.out _ aj.out).mono ?_;rintro e w7 ⟨rfl,b7⟩;have B7:=hid b7;clear b7 aD)
  | (go_at_call 32;refine(aE.out _ B7.out).mono ?_;rintro e w8 ⟨rfl,b8⟩;have B8:=hid b8;clear b8 aE)
  | (go_at_call 32;refine(aF.out _ B8.out).mono ?_;rintro e w9 ⟨rfl,b9⟩;have B9:=hid b9;clear b9 aF;refine Hid.out ?_))
 refine hid ?_;have V:=aG.out;clear aG;cases b3 with
 | false =>
  have J:bb=false:=by simpa using V
  clear V;subst J;go_wp2;exact bodyPost_ret (results_tmp results13 _ _ _) rfl ⟨rfl,B9.out⟩
 | true =>
  cases b4 with
  | false =>
   have J:bb=false:=(by simpa using V);clear V;subst J;go_wp2;exact bodyPost_ret (results_tmp results13 _ _ _) rfl ⟨rfl,B9.out⟩
  | true =>
   have J:bb=b5:=(by simpa using V);clear V;subst J;go_wp2;exact bodyPost_ret (results_tmp results13 _ _ _) rfl ⟨rfl,B9.out⟩
end Go.Proofs.YtdnphaganajejaaGreatDoor.K
namespace Go.Proofs.YtdnphaganajejaaGreatDoor.K
open Go.Proofs.Tryz
open Go.RowKit
theorem ta_eq {k k':Nat} {M L:Rk.Tb Str Kp Le} {h rs:List Rx} {G ls:List Ex} (h0:Ib k M h G) (A:Ib k' L rs ls) (hK:Kl M L) (Y:Ta h G rs ls):M=L:=by
 funext x;cases D:Rk.fd rs x with
 | some q =>
  have Q:=ux rs x q D;obtain⟨i,hi,he⟩:=List.mem_iff_getElem.1 Q;have hg:(rs.getD i dR).1=x:=by rw[List.getD_eq_getElem?_getD,List.getElem?_eq_getElem hi];simp[he]
  obtain⟨Z,_,s3,_,s5,s6⟩:=Y.2.2.1 i hi;rw[hg] at Z s3 s5 s6;obtain⟨e1,e2⟩:=sm_at (A.rok _ Q).1 A.rok h0.rok D Z s3 s5 s6;rw[h0.r.some_ x q e1,A.r.some_ x q D,e2]
 | none =>
  rw[A.r.none_ x D];cases j:Rk.fd h x with
  | none=>exact h0.r.none_ x j
  | some I =>
   exfalso;have J:=ux h x I j;have hx:=(h0.rok _ J).1;by_cases V:I.2=[]
   ·have O:((x,I.1):Nx) ∈ nxs (lsD h []):=Wz6.2 ⟨_,qjx hx j V,rfl⟩;rw[Y.1] at O;obtain⟨y,hy,e⟩:=Wz6.1 O;obtain⟨q,K⟩:=ls_in hy;have e1:y.1=x:=congrArg Prod.fst e;have:=zzV A.asc _ K;simp only at this;rw[e1,D] at this;cases this
   have:=hK x I _ (h0.r.some_ x I j) V;rw[A.r.none_ x D] at this;cases this
end Go.Proofs.YtdnphaganajejaaGreatDoor.K
