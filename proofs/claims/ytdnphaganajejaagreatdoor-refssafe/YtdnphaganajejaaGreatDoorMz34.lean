import Derived.Test.YtdnphaganajejaaGreatDoorMz33
set_option linter.unusedSimpArgs false
set_option linter.unusedVariables false
set_option maxRecDepth 20000
set_option maxHeartbeats 4000000
open List renaming mem_of_mem_drop->Wv0
open Nat renaming add_comm->Wv1,lt_of_lt_of_le->Wq2
namespace Go.Proofs.YtdnphaganajejaaGreatDoor.K
open Go.Proofs.Tryz
open Go.RowKit
theorem results29:f29.results=#[.tmp 4]:=by kernel_rfl
theorem Ij {w:World} {B e k n:Nat} {v:Value} {xs:List Value} (h:w.ownsRow B e k v n xs) (h0:0<n):∃ g cap cur,v=.slice (some ⟨g,0,none⟩) n cap/\w.heap[g]? = some (.cells cur e (0,0)):=by
 obtain⟨_,⟨rfl,rfl⟩ | ⟨g,cap,cur,rfl,_,j,_⟩⟩:=h
 ·omega
 exact⟨g,cap,cur,rfl,j⟩
structure QsL (gb gi mb mi gj mj:Nat) (A B:ByteArray) (I J:List Value) (W:World):Prop where
 c1:W.cell? ⟨gb,gi,none⟩=some (.string A)
 c2:W.cell? ⟨mb,mi,none⟩=some (.string B)
 r1:W.rangeAt gb gj I
 r2:W.rangeAt mb mj J
theorem ZJ {P:Program} {j:Region.Mode} {Q:Exit->Act->World->Prop} {S:World->Prop} {l:List Oper} {i:Nat} {A:Oper} {fuel:Nat} {listed:Array Bool} {a:Act} {w:World} (D:S w)
  (h:wpAnyH P j l.toArray Q S fuel (listed.setIfInBounds i true) (a.put A.dst undef) w) (hx:listed.toList.findIdx? (fun b => !b)=some i:=by rfl) (hi:l[i]? = some A:=by rfl)
  (hs:Region.noSelect l.toArray=true:=by kernel_rfl) (G:Region.free j l.toArray listed i=true:=by kernel_rfl) (hr:(Region.ready j l.toArray listed).contains i=true:=by kernel_rfl) (hQ:∀ c a w,Q (.panic c) (a.put A.dst undef) w->Q (.panic c) a w:=by exact fun _ _ _ h=>h) (I:Region.wanted A (yielded l.toArray a.tmps)=false:=by rfl) :
  wpAnyH P j l.toArray Q S (fuel+1) listed a w:=j8 hi hs G hr hQ (Or.inr ⟨I,rfl⟩) D h
def QJ (va:Option Addr) (ty:TypeId) (w wr:World) (q:Nat):Prop := ∀ g cur,va=some ⟨g,0,none⟩->w.heap[g]? = some (.cells cur ty (0,0))->∃ cur',wr.heap[g]? = some (.cells cur' ty (0,0))/\∀ j,q<=j->cur'[j]? = cur[j]?
theorem QJ.drew {j:Option Addr} {ty:TypeId} {w wr:World} {q:Nat} (h:QJ j ty w wr q):QJ j ty w wr.drew q:=h
theorem QJ.set {D:Option Addr} {ty:TypeId} {w wr:World} {q A:Nat} (h:QJ D ty w wr q) {g j:Nat} (I:D=some ⟨g,0,none⟩) (M:j<A) (O:q<=A) (v:Value):QJ D ty w (wr.setCell ⟨g,j,none⟩ v) A:=fun L cur e hc=>by
 rw[I] at e;injection e with e;injection e with e _ _;subst e;obtain⟨G,J,K⟩:=h g cur I hc;refine⟨_,zV J j v,fun i hi=>?_⟩;rw[Array.getElem?_setIfInBounds,if_neg (by omega)];exact K i (by omega)
theorem QJ.range {G:Option Addr} {ty:TypeId} {w wr:World} {q:Nat} (h:QJ G ty w wr q) {g:Nat} {cur:Array Value} (K:G=some ⟨g,0,none⟩) (hc:w.heap[g]? = some (.cells cur ty (0,0))) {o:Nat} {xs:List Value} (L:q<=o) (hx:w.rangeAt g o xs):wr.rangeAt g o xs:=fun j v hv=>by
 obtain⟨A,I,J⟩:=h g cur K hc;have D:=hx j v hv;rw[cell_of_row _ _ _ _ _ _ hc] at D;rw[cell_of_row _ _ _ _ _ _ I,J _ (by omega)];exact D
abbrev nxs (ms:List Rx):List Nx:=ms.map fun r=>((r.1,r.2.1):Nx)
theorem L3 (B:Nat) (v:Value) (O:List Nx) (ms:List Rx) (a2:Option Addr) (c2:Nat) (w:World) (hB:w.ownsRow B 156 21 v O.length (O.flatMap jj)) (hP:Px yx 22 dR w a2 c2 ms) (ay:∀ p:Addr,a2=some p->v.ownBlock ≠ some p.block/\p.block<w.heap.size) (ae:∀ y ∈ O,IdW y.2) (az:∀ x ∈ ms,jW x) (hn:ms.length<=1000000) (aZ:O.length<=1000000) :
  Calls prog 29 #[v,.slice a2 ms.length c2] w fun e w'=>e=.returned (.bool (decide (O=nxs ms)))/\Al (fun i=>v.ownBlock=some i) w w':=by
 obtain⟨va,vc,hv⟩:=zu hB;subst hv;by_cases hlen:O.length=ms.length;case neg =>
  have aN:decide (O=nxs ms)=false:=decide_eq_false fun e=>hlen (by rw[e];simp);rw[aN];obtain⟨N,hN⟩:∃ N,O.length=N:=⟨_,rfl⟩;obtain⟨M,hM⟩:∃ N,ms.length=N:=⟨_,rfl⟩;rw[hN,hM] at hlen;rw[hN,hM];have be:¬ ((N:Int)=(M:Int)):=by omega
  clear hB hP ay ae az aN;go_enter func29,ntmps29;go_wp2;exact bodyPost_ret (results_tmp results29 _ _ _) rfl ⟨rfl,Al.refl _ _⟩
 obtain⟨N,HN⟩:=nm_ ms.length;have V:Hid (O.length=N):=hid (by rw[hlen];exact HN.out);have bf:N<=1000000:=by rw[<-HN.out];exact hn
 rw[HN.out,V.out];have HP:=hid hP;have HB:Hid (w.ownsRow B 156 21 (.slice va N vc) O.length (O.flatMap jj)):=hid (by rw[<-V.out];exact hB);have aU:=hid az;have am:=hid ae;have aC:Hid (∀ p:Addr,a2=some p->(Value.slice va N vc).ownBlock ≠ some p.block/\p.block<w.heap.size):=hid (by rw[<-V.out];exact ay)
 have aB:Hid ((∀ i,i<N->O.getD i dN=((ms.getD i dR).1,(ms.getD i dR).2.1))->O=nxs ms):=hid fun h=>by
  refine List.ext_getElem (by rw[List.length_map,HN.out,V.out]) fun i h1 h2=>?_;have h3:i<ms.length:=by simpa using h2
  have:=h i (by rw[<-V.out];exact h1);rw[List.getD_eq_getElem?_getD,List.getElem?_eq_getElem h1,List.getD_eq_getElem?_getD,List.getElem?_eq_getElem h3] at this;simpa using this
 have ac:Hid (∀ i,i<N->O.getD i dN ≠ ((ms.getD i dR).1,(ms.getD i dR).2.1)->decide (O=nxs ms)=false):=hid fun i hi h=>decide_eq_false fun e=>h (by
  have h3:i<ms.length:=by rw[HN.out];exact hi
  rw[e,List.getD_eq_getElem?_getD,List.getD_eq_getElem?_getD,List.getElem?_eq_getElem h3];simp[List.getElem?_map,List.getElem?_eq_getElem h3])
 obtain⟨bb,av⟩:∃ b,decide (O=nxs ms)=b:=⟨_,rfl⟩;rw[av] at ac ⊢;have aS:=hid av;clear hP hB az ay hn ae hlen aZ av;go_enter func29,ntmps29;go_wp2
 go_loopg [5] N (fun q iv wr=>∃ i:Nat,iv=.int .i64 i/\q=N-i/\i<=N/\Hid (∀ j,j<i->O.getD j dN=((ms.getD j dR).1,(ms.getD j dR).2.1))/\Hid (Al (fun i=>(Value.slice va N vc).ownBlock=some i) w wr)/\Hid (QJ va 156 w wr (i*21)));case atStart=>exact⟨0,rfl,rfl,Nat.zero_le _,hid (fun j hj=>absurd hj (Nat.not_lt_zero j)),hid (Al.refl _ _),hid (fun g cur _ h=>⟨cur,h,fun _ _=>rfl⟩)⟩
 obtain⟨i,rfl,hq,bh,ao,Y,aD⟩:=hrel;by_cases ad:i<N;rotate_left
 ·have aM:¬ (i:Int)<(N:Int):=by omega
  obtain rfl:i=N:=by omega
  have aX:bb=true:=by rw[<-aS.out];exact decide_eq_true (aB.out ao.out)
  subst aX;go_wp2;exact bodyPost_ret (results_tmp results29 _ _ _) rfl ⟨rfl,Y.out⟩
 have aM:(i:Int)<(N:Int):=by omega
 obtain⟨gb,cap,cur,hv,a6⟩:=Ij HB.out (by rw[V.out];omega);injection hv with b8 b6 b7;clear b6 b7;subst b8;obtain⟨x,hx⟩:∃ x,ms.getD i dR=x:=⟨_,rfl⟩;obtain⟨y,hy⟩:∃ y,O.getD i dN=y:=⟨_,rfl⟩;have aQ:jW x:=by rw[<-hx];exact aU.out _ (zQ ms i dR (by rw[HN.out];exact ad))
 have aR:IdW y.2:=by rw[<-hy];exact am.out _ (zQ O i dN (by rw[V.out];exact ad))
 obtain⟨mb,mo,aY,_,_⟩:=HP.out.at_ (by rw[HN.out];omega);subst aY;have aK:Px yx 22 dR wr (some ⟨mb,mo,none⟩) c2 ms:=HP.out.tf (fun q hq=>Y.out.blk _ (aC.out q hq).2 (fun e=>(aC.out q hq).1 (by rw[<-e]))) Y.out.size;obtain⟨A,HA⟩:=nm_ (⟨y.1.toArray⟩:ByteArray);obtain⟨A2,ar⟩:=nm_ (⟨x.1.toArray⟩:ByteArray);obtain⟨I,hI⟩:∃ L,row .u8 y.2=L:=⟨_,rfl⟩
 obtain⟨J,hJ⟩:∃ L,row .u8 x.2.1=L:=⟨_,rfl⟩;have aI:I.length=20:=by rw[<-hI,zv];exact aR.1
 have aJ:J.length=20:=by rw[<-hJ,zv];exact aQ.2.1.1
 have aj:Hid ((prog.info? 116).map (·.size)=some I.length):=hid (by rw[aI];kernel_rfl);have ai:Hid ((prog.info? 91).map (·.size)=some J.length):=hid (by rw[aJ];kernel_rfl)
 have ag:Hid (∀ W:World,(Op.equalIn 10000 116 (.agg I.toArray) (.agg J.toArray)).run prog W=.ok (decide (y.2=x.2.1)) W):=fun W=>by rw[<-hI,<-hJ];exact KZ 116 Y8 _ _ aR.1 aQ.2.1.1 W
 have ap:w.rangeAt gb (i*21) (jj y):=by
  obtain⟨a',c',e',aW,_⟩:=uX (enc:=jj) (k:=21) (d:=dN) HB.out (fun z hz=>WV (am.out z hz).1);injection e' with e1 _ _;obtain⟨b,off,e2,_,e3⟩:=aW.at_ (by rw[V.out];omega);rw[<-e1] at e2;injection e2 with e2;injection e2 with e2 e4 _;have:=e3 i (by rw[V.out];exact ad);rw[<-e2,<-e4,Nat.zero_add,hy] at this;exact this
 have aV:Hid (∀ W,(∀ k,k<wr.heap.size->W.heap[k]? = wr.heap[k]?)->QsL gb (i*21) mb (mo+i*22) (i*21+1) (mo+i*22+1) A A2 I J W):=fun W hW=>by
  have b2:QJ (some ⟨gb,0,none⟩) 156 w W (i*21):=fun g' aG e hc=>by
   obtain⟨c3,h1,h2⟩:=aD.out g' aG e hc;exact⟨c3,(hW g' (z7 h1)).trans h1,h2⟩
  have aO:=b2.range rfl a6 (Nat.le_refl _) ap;obtain⟨_,_,e1,e2,e3⟩:=aK.at_ (by rw[HN.out];omega);cases e1
  have e4:=e3 i (by rw[HN.out];exact ad);have aP:W.rangeAt mb (mo+i*22) (yx x):=fun j v hv=>by
   rw[hx] at e4;have:=e4 j v hv;simp only[World.cell?,hW mb e2] at this ⊢;exact this
  refine⟨by rw[<-HA.out];exact aO 0 _ rfl,by rw[<-ar.out];exact aP 0 _ rfl,fun j v hv=>?_,fun j v hv=>?_⟩
  ·have:=aO (1+j) v (by unfold jj;rw[Wv1 1 j,List.getElem?_cons_succ,hI];exact hv);rw[<-this];congr 2;omega
  have:=aP (1+j) v (by unfold yx;rw[Wv1 1 j,List.getElem?_cons_succ,List.getElem?_append_left (by rw[hJ];exact(List.getElem?_eq_some_iff.1 hv).1),hJ];exact hv);rw[<-this];congr 2;omega
 have G:=aV.out wr.drew (fun _ _=>rfl);have a8:∀ k,k<wr.heap.size->wr.drew.heap[k]? = wr.heap[k]? := fun _ _=>rfl;have Q:Hid (Al (fun i=>(Value.slice (some ⟨gb,0,none⟩) N vc).ownBlock=some i) w wr.drew):=hid ⟨Y.out.os,Y.out.tape,Y.out.output,Y.out.size,Y.out.blk⟩;have Z:Hid (QJ (some ⟨gb,0,none⟩) 156 w wr.drew (i*21)):=hid aD.out.drew
 have ax:wr.drew.frozen? ⟨gb,i*21,none⟩=false:=by
  obtain⟨c3,h1,_⟩:=Z.out gb cur rfl a6;simp[World.frozen?,h1]
 have b9:=hid a6;have ak:Hid (y ≠ (x.1,x.2.1)->bb=false):=hid fun h=>ac.out i ad (by rw[hy,hx];exact h);have aF:Hid (O.getD i dN=y/\ms.getD i dR=x):=hid ⟨hy,hx⟩;clear aK ap a6 hx hI hJ HP HB hy ac;by_cases ah:y.1=x.1;case neg =>
  have aH:¬ A.toList=A2.toList:=by
   rw[<-HA.out,<-ar.out,Lib.toList_data,Lib.toList_data];exact ah
  have aw:bb=false:=ak.out fun e=>ah (by rw[e]);subst aw;go_wp2;refine wp_region_held_drew (S:=QsL gb (i*21) mb (mo+i*22) (i*21+1) (mo+i*22+1) A A2 I J) (by kernel_rfl) G (fun D=>?_);generalize wr.drew=u0 at D G a8 Q Z ax ⊢;iterate 10
   refine qy (v:=?_) D ?_ ?_;rotate_left
   ·rintro w' ⟨c1,c2,_,_⟩;go_simp;rfl
   try simp only[Act.put,sL]
  refine qZ (i:=10) (v:=.bool true) D ?_ ?_
  ·intro w' K;go_simp
  try simp only[Act.put,sL]
  refine qy (v:=?_) D ?_ ?_;rotate_left
  ·rintro w' ⟨c1,c2,_,_⟩;go_simp;rfl
  try simp only[Act.put,sL]
  iterate 11
   refine ZJ D ?_;try simp only[Act.put,sL]
  refine qy (v:=?_) D ?_ ?_;rotate_left
  ·rintro w' ⟨c1,c2,_,_⟩;go_simp;rfl
  try simp only[Act.put,sL]
  refine wpAnyH_done (by kernel_rfl) ?_ _;clear D G a8;go_wp2;exact bodyPost_ret (results_tmp results29 _ _ _) rfl ⟨rfl,Q.out⟩
 have aH:A2=A:=by rw[<-HA.out,<-ar.out,ah]
 subst aH;by_cases a7:y.2=x.2.1;case neg =>
  have aw:bb=false:=ak.out fun e=>a7 (by rw[e]);subst aw;rw[decide_eq_false a7] at ag;go_wp2;refine wp_region_held_drew (S:=QsL gb (i*21) mb (mo+i*22) (i*21+1) (mo+i*22+1) A2 A2 I J) (by kernel_rfl) G (fun D=>?_);generalize wr.drew=u0 at D G a8 Q Z ax ⊢;iterate 16
   refine qy (v:=?_) D ?_ ?_;rotate_left
   ·rintro w' ⟨c1,c2,_,_⟩;go_simp;rfl
   try simp only[Act.put,sL]
  refine qZ (i:=16) (v:=.agg I.toArray) D (fun w' K=>zY 116 (.tmp 32) rfl gb (i*21+1) rfl I _ K.r1 underlying116 rfl aj.out) ?_;try simp only[Act.put,sL]
  iterate 4
   refine qy (v:=?_) D ?_ ?_;rotate_left
   ·rintro w' ⟨c1,c2,_,_⟩;go_simp;rfl
   try simp only[Act.put,sL]
  refine qZ (i:=21) (v:=.agg J.toArray) D (fun w' K=>zY 91 (.tmp 37) rfl mb (mo+i*22+1) rfl J _ K.r2 underlying91 rfl ai.out) ?_;try simp only[Act.put,sL]
  refine qZ (i:=22) (v:=.bool true) D ?_ ?_
  ·intro w' K;have aL:=ag.out w';go_simp
  try simp only[Act.put,sL]
  iterate 1
   refine qy (v:=?_) D ?_ ?_;rotate_left
   ·rintro w' ⟨c1,c2,_,_⟩;go_simp;rfl
   try simp only[Act.put,sL]
  refine wpAnyH_done (by kernel_rfl) ?_ _;clear D G a8;go_wp2;exact bodyPost_ret (results_tmp results29 _ _ _) rfl ⟨rfl,Q.out⟩
 have au:Hid (∀ j,j<i+1->O.getD j dN=((ms.getD j dR).1,(ms.getD j dR).2.1)):=hid fun j hj=>by
  by_cases e:j=i
  ·subst e;rw[aF.out.1,aF.out.2,<-ah,<-a7]
  exact ao.out j (by omega)
 rw[decide_eq_true a7] at ag;go_wp2;refine wp_region_held_drew (S:=QsL gb (i*21) mb (mo+i*22) (i*21+1) (mo+i*22+1) A2 A2 I J) (by kernel_rfl) G (fun D=>?_);generalize wr.drew=u0 at D G a8 Q Z ax ⊢;iterate 16
  refine qy (v:=?_) D ?_ ?_;rotate_left
  ·rintro w' ⟨c1,c2,_,_⟩;go_simp;rfl
  try simp only[Act.put,sL]
 refine qZ (i:=16) (v:=.agg I.toArray) D (fun w' K=>zY 116 (.tmp 32) rfl gb (i*21+1) rfl I _ K.r1 underlying116 rfl aj.out) ?_;try simp only[Act.put,sL]
 iterate 4
  refine qy (v:=?_) D ?_ ?_;rotate_left
  ·rintro w' ⟨c1,c2,_,_⟩;go_simp;rfl
  try simp only[Act.put,sL]
 refine qZ (i:=21) (v:=.agg J.toArray) D (fun w' K=>zY 91 (.tmp 37) rfl mb (mo+i*22+1) rfl J _ K.r2 underlying91 rfl ai.out) ?_;try simp only[Act.put,sL]
 refine qZ (i:=22) (v:=.bool false) D ?_ ?_
 ·intro w' K;have aL:=ag.out w';go_simp
 try simp only[Act.put,sL]
 iterate 1
  refine qy (v:=?_) D ?_ ?_;rotate_left
  ·rintro w' ⟨c1,c2,_,_⟩;go_simp;rfl
  try simp only[Act.put,sL]
 refine wpAnyH_done (by kernel_rfl) ?_ _;have bg:=G.c1;have aA:Hid (∀ v,Al (fun i=>(Value.slice (some ⟨gb,0,none⟩) N vc).ownBlock=some i) w (u0.setCell ⟨gb,i*21,none⟩ v)):=fun v=>Q.out.trans (Al.of_set (S:=fun i=>(Value.slice (some ⟨gb,0,none⟩) N vc).ownBlock=some i) (p:=⟨gb,i*21,none⟩) rfl v) (fun i h=>.inl h)
 have aE:Hid (∀ v,QJ (some ⟨gb,0,none⟩) 156 w (u0.setCell ⟨gb,i*21,none⟩ v) ((i+1)*21)):=fun v=>Z.out.set rfl (by omega) (by omega) v;clear D G a8;go_wp2;go_roundg (N-(i+1));case measure=>omega
 case rel=>exact⟨i+1,by go_num,rfl,by omega,au,hid (aA.out _),hid (aE.out _)⟩
theorem zuy:prog.underlying 127=some (.slice (prog.elem 127)):=by kernel_rfl
theorem qqK (w:World):(Go.sizeOf (prog.elem 127)).run prog w=.ok 45 w:=by kernel_rfl
theorem sl98l (a:Option Addr) (n cap i:Nat) (I:Int) (h:I=(i:Int)) (hi:i<=n) (w:World):(Instr.slice 127 (.slice a n cap) (some (.int .i64 I)) none none).run prog w=.ok (.slice (adX 45 a cap i) (n-i:Nat) (cap-i:Nat)) w:=by
 subst h;rw[run_slice_l w 127 a n cap zuy .i64 i (by omega) (by omega),qqK,Result.andThen_ok,sliced];rfl
theorem zuu {P:Program} {o:Oper} {a:Act} {w w':World} {t:TypeId} (x l:Operand) (j:o.op=.slice t x (some l) none none) (A:P.underlying t=some (.slice (P.elem t))) {xv lv v:Value} (hx:a.eval x=xv) (h:a.eval l=lv) (hr:(Instr.slice t xv (some lv) none none).run P w=.ok v w'):(execOp a.eval o).run P w=.ok (.value v) w':=by
 have:=run_sliceAt_slice (P:=P) (w:=w) t xv (some lv) none none A;rw[hr] at this;unfold execOp;simp[j,hx,h,this,Result.andThen]
theorem Tt.upd {S:Nat->Prop} {w w':World} {t n:Nat} {T:Ts} (h:Tt S w t n T) {x:Str} {r:Lr} (hr:Xv S w x r) (M:TM (rV r0) w' t (n+1) (vT (uT T x (some r)))) (G:w.grownBy w' (some t)):Tt S w' t (n+1) (uT T x (some r)):=by
 obtain⟨es,ck,hb⟩:=h.tm.box;have D:∀ y q,Xv S w y q->Xv S w' y q:=fun y q A=>by
  refine⟨A.nm,A.id,A.tg,⟨A.px.capl,fun h0=>?_,A.px.nil⟩,A.few,A.ok,fun p K=>⟨(A.out p K).1,Wq2 (A.out p K).2 G.size⟩⟩;obtain⟨b,off,e1,I,J⟩:=A.px.at_ h0;refine⟨b,off,e1,Wq2 I G.size,fun i hi j v hv=>?_⟩;rw[World.cell?_of_block (a:=⟨b,off+i*45+j,none⟩) (G.block b I (fun e=>by
   cases e
   have L:=J i hi j v hv;simp[World.cell?,hb] at L))]
  exact J i hi j v hv
 refine⟨M,fun y q A=>?_,h.out⟩;unfold uT at A;by_cases e:y=x
 ·rw[if_pos e] at A;cases A;rw[e];exact D x _ hr
 rw[if_neg e] at A;exact D y q (h.at_ y q A)
theorem qqV {r:Lr} {A:Array Value} (h:rV r=.agg A) (hr:r.id.length=20) (j:Option Addr) (D:Nat) (l:List Le):(.agg (A.setIfInBounds 21 (.slice j l.length D)):Value)=rV { r with a:=j,c:=D,log:=l }:=by
 unfold rV at h ⊢;injection h with h;have G:(row .u8 r.id).length=20:=by rw[zv];exact hr
 rw[<-h,List.setIfInBounds_toArray,List.set_append_right _ _ (by omega),G];rfl
def exT (m:Rk.Tb Str Kp Le) (x:Str) (i:Nat):Rk.Tb Str Kp Le:=fun b=>if b=x then (m x).map fun y=>(y.1,y.2.drop i) else m b
def L4 (S XE:Nat->Prop) (N D R:Nat) (f:Fq) (n:Nat) (T:Ts) (x:Str) (k:Int) (w:World) (e:Ending) (w':World):Prop:=match gt T x with
 | .error kk=>Gu kk w e w'
 | .ok r=>kY S XE N D R f n T (n+1) Yk (exT (aT T) x (r.log.length-k.toNat)) w e w'
theorem qqW {α:Type} {enc:α->List Value} {k:Nat} {d:α} (w:World):Px enc k d w none 0 []:=⟨Nat.le_refl _,fun h=>absurd h (by simp),fun _=>rfl⟩
theorem NZ {g:Nat} {w W:World} (h:Below g w W) {p:Addr} (j:g<=p.block) (v:Value):Below g w (W.setCell p v) :=
 ⟨h.os,h.tape,h.output,by simp[World.setCell];exact h.size,fun i hi=>by rw[Below.heap_setCell _ _ _ i (by omega)];exact h.block i hi⟩
theorem Ay (S XE:Nat->Prop) (N D R:Nat) (w:World) (f:Fq) (t n:Nat) (T:Ts) (x:Str) (k:Int) (bg : -9223372036854775808<=k) (ac:k<=9223372036854775807) (h:Pw S XE N D R w f t n T) (hN:N<=70000) (hn:n<=70000) (hF:∀ T' i,aT T'=exT (aT T) x i->Few T') (ht:Tab w) (aZ:Db w) (b2:Mx w) :
  Calls prog 25 #[.pointer (some ⟨R,0,none⟩),sV x,.int .i64 k] w (L4 S XE N D R f n T x k w):=by
 obtain⟨rr,HR⟩:=nm_ w.heap.size;have hg:=Rq (SrE S R XE) t n T x w h.tt b2;have h1:=h.rf.c.2.1;unfold SQ at hg;rw[HR.out] at hg;unfold L4;cases a8:gt T x with
 | error kk =>
  obtain⟨A,HA⟩:=ra r0 rfl;rw[a8] at hg;simp only[HA.out.e] at hg;have HE:Hid (∀ W,Below rr w W->Gu kk w (.returned (.iface 32 (.int .i64 kk))) (W.alloc (.cells A 129))):=fun W hW=>⟨rfl,by rw[HR.out];exact hW.alloc (by have:=hW.size;have:=HR.out;omega) _⟩;unfold sV at hg ⊢;clear h hF a8;go_enter func25,ntmps25;go_wp2_with (first
   | (go_at_call 62;refine hg.mono ?_;rintro e w1 ⟨rfl,a7⟩;have E1:=hid (HE.out w1 a7);clear a7)
   | (refine zq rfl 129 (.tmp 7) (.tmp 17) rfl _ A rfl rfl HA.out.i HA.out.z HA.out.o ?_))
  exact bodyPost_ret (results_tmp results25 _ _ _) rfl E1.out
 | ok r =>
  obtain⟨hr,aB,bh⟩:=zx9 h.tt a8;obtain⟨A,HA⟩:=ra r hr.id.1;rw[a8] at hg;simp only[HA.out.e] at hg;obtain⟨L,HL⟩:=nm_ r.log.length;have b8:L<=100000:=by rw[<-HL.out];exact hr.few
  obtain⟨i,hi⟩:∃ i,L-k.toNat=i:=⟨_,rfl⟩;have aH:i<=L:=by omega
  show Calls prog 25 #[.pointer (some ⟨R,0,none⟩),sV x,.int .i64 k] w (fun e w'=>kY S XE N D R f n T (n+1) Yk (exT (aT T) x (r.log.length-k.toNat)) w e w');rw[HL.out,hi]
  have ae:Hid (∀ O,Below rr w O->∃ K,O.heap.size=K/\∃ W2,O.alloc (.cells A 129)=W2/\W2.cell? ⟨K,21,none⟩=some (.slice r.a L r.c)/\Calls prog 63 #[.slice (adX 45 r.a r.c i) (L-i:Nat) (r.c-i:Nat)] W2 fun e3 w3=>∃ M vl Y u0,e3=.returned (.slice M vl Y)/\w3.cell? ⟨K,21,none⟩=some u0/\w3.frozen? ⟨K,21,none⟩=false/\∃ W4,w3.setCell ⟨K,21,none⟩ (.slice M vl Y)=W4/\w3.cell? ⟨R,1,none⟩=some (.map (some t))/\Calls prog 49 #[.map (some t),.slice none 0 0] W4 fun e5 w5=>∃ t' V w6,e5=.returned (.map (some t'))/\w5.heap[K]? = some (.cells V 129)/\(prog.info? 129).map (·.size)=some V.size/\(Instr.mapUpdate 56 (.map (some t')) (.string ⟨x.toArray⟩) (.agg V)).run prog w5=.ok () w6/\Calls prog 61 #[.pointer (some ⟨R,0,none⟩),.map (some t')] w6 (kY S XE N D R f n T (n+1) Yk (exT (aT T) x i) w)):=fun O aC=>by
   refine⟨_,rfl,_,rfl,?_⟩;have aM:rr<=O.heap.size:=(by have:=aC.size;have:=HR.out;omega);obtain⟨W2,Q⟩:∃ W2,O.alloc (.cells A 129)=W2:=⟨_,rfl⟩;have aY:Below rr w W2:=(by rw[<-Q];exact aC.alloc aM _);have Z:Below w.heap.size w W2:=(by rw[HR.out];exact aY);have ac:W2.heap[O.heap.size]? = some (.cells A 129):=(by rw[<-Q];exact heap_alloc_new _ _)
   have aj:=(vZ HA.out hr.id.1 O).2;rw[Q,HL.out] at aj;rw[Q];refine⟨aj,?_⟩;have hlen:(r.log.drop i).length=L-i:=(by rw[List.length_drop,HL.out]);have aF:=Nk (adX 45 r.a r.c i) (r.c-i) (r.log.drop i) W2 ((hr.px.from i (by rw[HL.out];exact aH)).below Z) (fun e he=>hr.ok e (Wv0 he)) (by rw[hlen];omega);rw[hlen] at aF;refine aF.mono ?_
   rintro e3 w3 ⟨v,rfl,ai⟩;obtain⟨M,Y,rfl,aX,ar,_⟩:=ai.px (d:=dL) (fun e he=>yQ (hr.ok e (Wv0 he)));rw[hlen];have aI:w3.heap[O.heap.size]? = some (.cells A 129):=(ai.below.block _ (z7 ac)).trans ac;have aE:w3.cell? ⟨O.heap.size,21,none⟩=some (.slice r.a L r.c):=(ai.below.cell (p:=⟨O.heap.size,21,none⟩) (z7 ac)).trans aj
   have aD:Below w.heap.size w w3:=Z.trans (ai.below.mono Z.size);refine⟨M,_,Y,_,rfl,aE,by simp[World.frozen?,aI],_,rfl,?_⟩;obtain⟨W4,J⟩:∃ W4,w3.setCell ⟨O.heap.size,21,none⟩ (.slice M (L-i:Nat) Y)=W4:=⟨_,rfl⟩;have ag:Below w.heap.size w W4:=(by rw[<-J];exact NZ aD (by show _<=O.heap.size;rw[HR.out];exact aM) _)
   have aJ:W4.heap[O.heap.size]? = some (.cells (A.setIfInBounds 21 (.slice M (L-i:Nat) Y)) 129):=(by rw[<-J,zV aI]);have h4:=h.below ag;rw[J];refine⟨(h.below aD).rf.c.2.1,?_⟩;refine(Xw (SrE S R XE) t n T none 0 [] W4 h4.tt h4.lim (qqW _) trivial (by simp;omega)).mono ?_;rintro e5 w5 ⟨t',T',rfl,ao,hA,ah⟩
   have G:Below w.heap.size w w5:=ag.trans (ah.mono ag.size);have ak:=(ah.block _ (z7 aJ)).trans aJ;obtain⟨w6,ad,az,a6⟩:=ao.tt.tm.put (by simp;omega) xX (x:=x) (by have:=hr.nm;omega) (rV { r with a:=M,c:=Y,log:=r.log.drop i });have hV:=qqV HA.out.e hr.id.1 M Y (r.log.drop i);rw[hlen] at hV;rw[<-hV] at ad
   refine⟨t',_,w6,rfl,ak,by rw[Array.size_setIfInBounds];exact HA.out.i,ad,?_⟩;have aK:Xv (SrE S R XE) w5 x { r with a:=M,c:=Y,log:=r.log.drop i }:=by
    have aL:Px qw 45 dL w5 M Y (r.log.drop i):=by
     have b6:∀ p:Addr,M=some p->p.block ≠ O.heap.size:=fun p hp e=>by have:=(ar p hp).1;have:=z7 ac;omega
     have aW:Px qw 45 dL W4 M Y (r.log.drop i):=aX.tf (fun q hq=>by rw[<-J,Below.heap_setCell _ _ _ _ (b6 q hq)]) (by rw[<-J];simp[World.setCell]);exact aW.below ah
    refine⟨hr.nm,hr.id,hr.tg,aL,by show (r.log.drop i).length<=_;rw[hlen];omega,fun e he=>hr.ok e (Wv0 he),fun p hp=>⟨fun hs=>?_,?_⟩⟩
    ·have h5:=h.lim _ hs;have h6:=(ar p hp).1;have:=Z.size;omega
    have h6:=(ar p hp).2;have h7:W4.heap.size=w3.heap.size:=(by rw[<-J];simp[World.setCell]);have:=ah.size;omega
   have b7:vT (uT T' x (some { r with a:=M,c:=Y,log:=r.log.drop i }))=fun y=>if y=x then some (rV { r with a:=M,c:=Y,log:=r.log.drop i }) else vT T' y:=SK _ _ _;rw[<-b7] at az;have aA:=ao.tt.upd aK az a6;have ap:Below w.heap.size w w6:=⟨a6.os.trans G.os,a6.tape.trans G.tape,a6.output.trans G.output,Nat.le_trans G.size a6.size,fun j hj=>by
    have:=ao.ge;have:=ag.size;rw[a6.block j (by have:=G.size;omega) (fun e=>by cases e;omega)];exact G.block j hj⟩
   have ay:aT (uT T' x (some { r with a:=M,c:=Y,log:=r.log.drop i }))=exT (aT T) x i:=by
    have e0:aT T'=aT T:=(by rw[hA];rfl);funext y;have ey:=congrFun e0 y;unfold exT;by_cases e:y=x
    ·subst e;simp only[if_true];simp only[aT,uT,if_true,aB,Option.map_some]
    simp only[if_neg e];rw[<-ey];simp only[aT,uT,if_neg e]
   have:=Iq S XE N D R w w6 f t n t' _ T _ h ap aA hN (by simp;omega) (hF _ i ay) (ht.below ap) (aZ.below ap);rw[ay] at this;exact this
  unfold sV at hg ⊢;obtain⟨XB,HX⟩:=nm_ (⟨x.toArray⟩:ByteArray);rw[HX.out] at hg ae ⊢;obtain⟨SL,au⟩:=nm_ (.slice (adX 45 r.a r.c i) (L-i:Nat) (r.c-i:Nat):Value);have av:Hid (∀ (W:World) (I:Int),I=(i:Int)->(Instr.slice 127 (.slice r.a L r.c) (some (.int .i64 I)) none none).run prog W=.ok SL W):=fun W I hI=>by rw[<-au.out];exact sl98l r.a L r.c i I hI aH W
  rw[au.out] at ae;clear h hF a8 hr aB;have b9:¬ (L:Int)<0:=by omega
  have aR:Hid ((L:Int)-min (max k 0) (L:Int)=(i:Int)):=hid (by omega);go_enter func25,ntmps25;go_wp2_with (first
   | (go_at_call 62;refine hg.mono ?_;rintro e w1 ⟨rfl,a7⟩;obtain⟨K,hK,W2,Q,aj,ax⟩:=ae.out w1 a7;have HK:=hid hK;have aV:=hid Q;have aP:=hid ax;clear a7 hK Q ax ae)
   | (refine zq rfl 129 (.tmp 7) (.tmp 17) rfl _ A rfl rfl HA.out.i HA.out.z HA.out.o ?_;rw[HK.out,aV.out])
   | (refine z8 rfl SL (zuu (xv:=.slice r.a L r.c) (lv:=.int .i64 ((L:Int)-min (max k 0) (L:Int))) (.tmp 29) (.tmp 34) rfl zuy rfl rfl (av.out _ _ aR.out)) ?_;go_frame)
   | (go_at_call 63;refine aP.out.mono ?_;rintro e w3 ⟨M,vl,Y,u0,rfl,aE,bf,W4,J,be,am⟩;rw[<-J] at am;have aN:=hid am;clear J am)
   | (go_at_call 49;refine aN.out.mono ?_;rintro e w5 ⟨t',V,w6,rfl,ak,aG,ad,aw⟩;have aS:=hid ak;have aQ:=hid aG;have aU:=hid ad;have aO:=hid aw;clear ak aG ad aw)
   | (refine zX rfl 129 (.tmp 7) rfl _ V 129 (0,0) _ rfl aS.out underlying129 rfl aQ.out ?_;go_frame)
   | (at_mapUpdate;refine xK rfl (xq (mv:=.map (some t')) (kv:=.string XB) (v:=.agg V) rfl rfl rfl rfl aU.out) ?_;go_frame)
   | (go_at_call 61;refine aO.out.mono ?_;rintro e w7 k7;obtain⟨v7,rfl⟩:=k7.ret;have K7:=hid k7;clear k7))
  exact bodyPost_ret (results_tmp results25 _ _ _) rfl K7.out
end Go.Proofs.YtdnphaganajejaaGreatDoor.K
