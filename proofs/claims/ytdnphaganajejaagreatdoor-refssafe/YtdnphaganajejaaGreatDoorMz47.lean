import Derived.Test.YtdnphaganajejaaGreatDoorMz46
set_option linter.unusedSimpArgs false
set_option linter.unusedVariables false
set_option maxRecDepth 20000
set_option maxHeartbeats 4000000
open List renaming size_toArray->Wyu
open Nat renaming le_refl->Wz8
namespace Go.Proofs.YtdnphaganajejaaGreatDoor.K
open Go.Proofs.Tryz
open Go.RowKit
theorem results49:f49.results=#[.tmp 4]:=by kernel_rfl
theorem TM.len {z:Value} {w:World} {g n:Nat} {M:Str->Option Value} (h:TM z w g n M) {t e:TypeId} (A:prog.underlying t=some (.map 9 e)) (ty:TypeId):∃ k:Nat,k<=n/\(Builtin.len_ #[t] ty #[.map (some g)]).run prog w=.ok (.int .i64 k) w:=by
 obtain⟨D,j,_⟩:=h;exact⟨_,j.size_le,j.len A ty⟩
theorem Ku {P:Program} {o:Oper} {a:Act} {w w':World} {t:TypeId} {m:Operand} (j:o.op=.call { callee:=.builtin .len,args:=#[m],argTypes:=#[t] }) {mv v:Value} (h:a.eval m=mv) (hr:(Builtin.len_ #[t] o.type #[mv]).run P w=.ok v w'):(execOp a.eval o).run P w=.ok (.value v) w':=by
 unfold execOp;simp[j,resolve,invoke,builtin,h,hr,Result.andThen]
theorem TR.le {z:Value} {w:World} {g r n c:Nat} {M:Str->Option Value} {L:Str->Bool} (h:TR z w g r n M L c):c<=n:=by
 obtain⟨Dd,lf,⟨es,ck,K,A,J,hb,F0,hs,I,hr,hold,j,rest⟩,D,G⟩:=h;have:(leftOf es A).size<=es.size:=by unfold leftOf;exact Array.size_filter_le
 omega
def stF (m:Rk.Tb Str Kp Le) (ss:List Sp):Rk.Tb Str Kp Le:=(ss.map sP).foldl Rk.tk m
theorem SW (m:Rk.Tb Str Kp Le) (ss:List Sp) (i:Nat) (h:i<ss.length) (d:Sp):stF m (ss.take (i+1))=Rk.tk (stF m (ss.take i)) (sP (ss.getD i d)):=by
 unfold stF;rw[qk d ss i h];simp
theorem StG.at {d:Sp} : ∀ (ss:List Sp) (m:Rk.Tb Str Kp Le),StG m ss->∀ i,i<ss.length->vV (ss.getD i d)/\StO (stF m (ss.take i)) (ss.getD i d)
 | [],m,h,i,hi=>by simp at hi
 | s :: r,m,h,0,hi=>⟨h.1,h.2.1⟩
 | s :: r,m,h,i+1,hi=>by
  have:=StG.at (d:=d) r _ h.2.2 i (by simpa using hi);simpa [stF] using this
def PostB (S:Nat->Prop) (G k:Nat) (m:Rk.Tb Str Kp Le) (w:World) (e:Ending) (w':World):Prop := ∃ t' T',e=.returned (.map (some t'))/\To S G w' t' k T'/\aT T'=m/\Below G w w'
theorem Xw (S:Nat->Prop) (t n:Nat) (T:Ts) (a:Option Addr) (c:Nat) (ss:List Sp) (w:World) (h:Tt S w t n T) (hS:∀ i,S i->i<w.heap.size) (hP:Px zJ 68 ⟨[],[],[],[],dL⟩ w a c ss) (hg:StG (aT T) ss) (hn:n+ss.length<=80000) :
  Calls prog 49 #[.map (some t),.slice a ss.length c] w (PostB S w.heap.size (n+ss.length) (stF (aT T) ss) w):=by
 obtain⟨G,O⟩:=nm_ w.heap.size;obtain⟨k0,bG,hlen⟩:=h.tm.len xX 3;have bw:=mk105 k0 (by omega) w;obtain⟨w1,ag⟩:∃ w1,w.alloc (.map #[] 0)=w1:=⟨_,rfl⟩;rw[ag,O.out] at bw;have a7:Below w.heap.size w w1:=by rw[<-ag];exact(Below.refl _ w).alloc (Wz8 _) _
 have bA:w1.heap.size=w.heap.size+1:=by rw[<-ag];simp
 obtain⟨w2,c0,aX,au,av,bB⟩:=(h.below a7).tm.range xX;have ar:TM (rV r0) w1 G 0 (fun _=>none):=by rw[<-ag,<-O.out];exact YX _ w
 have aQ:Below w.heap.size w w2:=a7.trans ((Tb av).mono a7.size);have aN:TM (rV r0) w2 G 0 (vT (Qj T (fun x=>(vT T x).isSome))):=by
  have e:vT (Qj T (fun x=>(vT T x).isSome))=fun _=>none:=by
   funext y;unfold vT Qj;cases e2:T y <;> simp[e2]
  rw[e];exact ar.sm ((Tb av).block _ ar.lt)
 have b6:Hid (Below G w w2):=hid (by rw[<-O.out];exact aQ);have bh:=hid aN;have aJ:=hid au;have H:=hid h;have b9:Hid (c0<=n):=hid au.le;obtain⟨r2,aA⟩:∃ r,w1.heap.size=r:=⟨_,rfl⟩;rw[aA] at aX aJ;have bm:Hid (G<r2):=hid (by rw[<-aA,<-O.out];omega);obtain⟨N,HN⟩:=nm_ ss.length;have bH:n+N<=80000:=by rw[<-HN.out];exact hn
 have HP:=hid hP;have be:=hid hg;have HS:=hid hS;rw[HN.out,O.out];clear h hP hg hS ar aN au av bB a7 aQ bA aA hn;go_enter func49,ntmps49;go_wp2_with (first
  | (at_len;refine z8 rfl _ (Ku rfl rfl hlen) ?_;go_frame)
  | (at_range;refine z8 rfl _ (vv rfl rfl aX) ?_;go_frame))
 go_loopg [6] c0 (fun q _ wr=>∃ (c k:Nat) (L:Str->Bool),q=c/\Hid (k+c<=n)/\Hid (TR (rV r0) wr t r2 n (vT T) L c)/\Hid (TM (rV r0) wr G k (vT (Qj T L)))/\Hid (Below G w wr));case atStart=>exact⟨c0,0,_,rfl,hid (by simpa using b9.out),aJ,bh,b6⟩
 obtain⟨c',k,L,hq,ao,bq,HM,HB⟩:=hrel;have aU:t<G:=by rw[<-O.out];exact H.out.tm.lt
 have a8:Below w.heap.size w wr:=by rw[O.out];exact HB.out
 rcases bq.out.next 0 with ⟨rfl,aj,hr⟩ | ⟨x,v,w3,c2,hL,hM,hr,a6,hc,aw,bC,aS⟩
 ·have D:To S w.heap.size wr G k (Qj T L):=qu5 H.out a8 HM.out (by rw[O.out];exact Wz8 _) HS.out;have aP:aT (Qj T L)=aT T:=by
   funext y;unfold aT Qj;cases e:T y with
   | none=>simp
   | some q=>rw[aj y (by have:=(H.out.at_ y q e).nm;omega)];rfl
  have bp:Hid (To S G wr G (n+0) (Qj T L)):=hid (by
   rw[O.out] at D;exact⟨⟨D.tt.tm.mono (by have:=ao.out;omega),D.tt.at_,D.tt.out⟩,D.lg,D.un,D.ge,D.out⟩)
  have b2:Hid (aT (Qj T L)=stF (aT T) (ss.take 0)):=hid (by rw[aP];rfl);have bj:Hid (0<N->∃ b off,a=some ⟨b,off,none⟩):=fun h0=>by
   obtain⟨b,off,e1,_⟩:=HP.out.at_ (by rw[HN.out];exact h0);exact⟨b,off,e1⟩
  have bk:Hid (∀ W,Below G w W->Px zJ 68 ⟨[],[],[],[],dL⟩ W a c ss):=fun W hW=>HP.out.below (by rw[O.out];exact hW);have b8:=HB;clear D aP aj aU a8 hq;go_wp2_with (at_next;refine z8 rfl _ (qW rfl rfl hr) ?_;go_frame)
  go_loopg [35] N (fun q iv wr=>∃ (i:Nat) (Ti:Ts),iv=.int .i64 i/\q=N-i/\i<=N/\Hid (To S G wr G (n+i) Ti)/\Hid (aT Ti=stF (aT T) (ss.take i))/\Hid (Below G w wr));case atStart=>exact⟨0,_,rfl,rfl,Nat.zero_le _,bp,b2,b8⟩
  obtain⟨i,Ti,rfl,bI,bF,aL,ak,am⟩:=hrel;by_cases ay:i<N;rotate_left
  ·have aV:¬ (i:Int)<(N:Int):=(by omega);obtain rfl:i=N:=(by omega);have HF:Hid (aT Ti=stF (aT T) ss):=hid (by rw[ak.out,List.take_of_length_le (by rw[HN.out];exact Wz8 _)]);go_wp2;exact bodyPost_ret (results_tmp results49 _ _ _) rfl ⟨G,Ti,rfl,aL.out,HF.out,am.out⟩
  have aV:(i:Int)<(N:Int):=by omega
  obtain⟨b,off,br⟩:=bj.out (by omega);subst br;obtain⟨st,ap⟩:=nm_ (ss.getD i ⟨[],[],[],[],dL⟩);obtain⟨ad,ae⟩:=StG.at (d:=⟨[],[],[],[],dL⟩) ss _ be.out i (by rw[HN.out];exact ay);rw[ap.out] at ad ae;rw[<-ak.out] at ae;obtain⟨_,_,e1,_,e3⟩:=(bk.out _ am.out).at_ (by rw[HN.out];omega);cases e1
  have e4:=e3 i (by rw[HN.out];exact ay);rw[ap.out] at e4;obtain⟨Z,V⟩:∃ B,zJ st=B:=⟨_,rfl⟩;have Q:Z.length=68:=by rw[<-V];exact qx ad
  have aG:Hid ((prog.info? 146).map (·.size)=some Z.length):=hid (by rw[Q];kernel_rfl);have ai:Hid ((prog.info? 146).map (·.size)=some Z.toArray.size):=hid (by rw[Wyu];exact aG.out);have bi:Hid (Z.toArray.all (·.oneCell')=true):=hid (all_oneCell_toArray (by rw[<-V];exact yk st));rw[V] at e4;have bn:=hid e4
  have aC:=fun W (hW:To S G W G (n+i) Ti)=>SV S G G (n+i) Ti st W hW ad (by omega) ae;rw[V] at aC;have aD:Hid (∀ W:World,Below W.heap.size W (W.alloc (.cells Z.toArray 146))):=fun W=>(Below.refl _ W).alloc (Wz8 _) _;have aY:=aC _ (aL.out.below (aD.out _))
  have aE:Hid (∀ (w7:World) (T':Ts),aT T'=Rk.tk (aT Ti) (sP st)->aT T'=stF (aT T) (ss.take (i+1))):=fun w7 T' he=>by rw[he,ak.out,SW (aT T) ss i (by rw[HN.out];exact ay) ⟨[],[],[],[],dL⟩,ap.out]
  have aM:Hid (68=Z.toArray.size):=hid (by rw[Wyu,Q]);have aF:Hid (∀ W:World,Below G w W->∀ w7,Below G (W.alloc (.cells Z.toArray 146)) w7->Below G w w7):=fun W hW w7 h7=>(hW.trans ((aD.out W).mono (by have:=hW.size;have:=O.out;omega))).trans h7;clear ad ae e3 e4 V Q aC;go_wp2_with (first
   | (refine wpList_load_mid rfl 146 (.tmp 37) rfl _ _ rfl Z _ bn.out underlying146 rfl aG.out ?_;go_frame)
   | (refine zq rfl 146 (.tmp 9) (.tmp 38) rfl _ Z.toArray rfl rfl ai.out (by rw[<-aM.out];rfl) bi.out ?_;go_frame)
   | (refine zX rfl 146 (.tmp 9) rfl _ Z.toArray 146 (0,0) _ rfl (heap_alloc_new _ _) underlying146 rfl ai.out ?_;go_frame)
   | (go_at_call 86;refine aY.mono ?_;rintro e w7 ⟨rfl,⟨T',k1,k2⟩,k3⟩;have K1:=hid k1;have K2:=hid (aE.out w7 T' k2);have K3:=hid (aF.out _ am.out w7 k3.b);clear k1 k2 k3))
  go_roundg (N-(i+1));case measure=>omega
  case rel=>exact⟨i+1,T',by go_num,rfl,by omega,K1,K2,K3⟩
 obtain⟨rr,aB,rfl⟩:=Rz hM;have K:=H.out.at_ x rr aB;obtain⟨A,HA⟩:=ra rr K.id.1;have bz:=bm.out;have J:Below G w w3:=HB.out.grown aw (by rw[<-O.out];exact a8.size) (fun q hq=>by cases hq;omega);have I:TM (rV r0) w3 G k (vT (Qj T L)):=HM.out.sm (aw.block _ HM.out.lt (fun e=>by cases e;omega));obtain⟨w4,ah⟩:∃ w4,w3.alloc (.cells A 129)=w4:=⟨_,rfl⟩
 obtain⟨la,ln,lc,bu⟩:∃ a n c,(Value.slice rr.a rr.log.length rr.c)=.slice a n c:=⟨_,_,_,rfl⟩;have az:=K.px;injection bu with e1 e2 e3;have bJ:∀ W:World,(Instr.slice 127 (.slice la ln lc) none (some (.int .i64 ln)) (some (.int .i64 ln))).run prog W=.ok (.slice la ln ln) W:=fun W=>by rw[<-e1,<-e2,<-e3];exact qzy rr.a rr.log.length rr.c az.capl az.nil W
 have bD:w4.cell? ⟨w3.heap.size,21,none⟩=some (.slice la ln lc):=by rw[<-ah,<-e1,<-e2,<-e3];exact(vZ HA.out K.id.1 w3).2
 have ax:w4.heap[w3.heap.size]? = some (.cells A 129):=by rw[<-ah];exact heap_alloc_new _ _
 have bE:w4.frozen? ⟨w3.heap.size,21,none⟩=false:=by simp[World.frozen?,ax]
 have j:Below w3.heap.size w3 w4:=by rw[<-ah];exact(Below.refl _ _).alloc (Wz8 _) _
 obtain⟨w5,M⟩:∃ w5,w4.setCell ⟨w3.heap.size,21,none⟩ (.slice la ln ln)=w5:=⟨_,rfl⟩;have bf:Hid (w5.heap[w3.heap.size]? = some (.cells (A.setIfInBounds 21 (.slice la ln ln)) 129)):=hid (by rw[<-M];exact zV ax 21 _);have Y:∀ i,i<w3.heap.size->w5.heap[i]? = w3.heap[i]? := fun i hi=>by
  rw[<-M];exact(Below.heap_setCell _ _ _ _ (by show i ≠ w3.heap.size;omega)).trans (j.block i hi)
 have aZ:w3.heap.size<=w5.heap.size:=by
  have:w5.heap.size=w4.heap.size:=by rw[<-M];simp[World.setCell]
  have:=j.size;omega
 have aR:Below G w w5:=⟨by rw[<-M];exact j.os.trans J.os,by rw[<-M];exact j.tape.trans J.tape,by rw[<-M];exact j.output.trans J.output,Nat.le_trans J.size aZ,fun i hi=>(Y i (by have:=I.lt;omega)).trans (J.block i hi)⟩;have hV:(.agg (A.setIfInBounds 21 (.slice la ln ln)):Value)=rV (cut rr):=by
  have:=qzu HA.out.e K.id.1;rw[e1,e2] at this;exact this
 obtain⟨w6,aW,aO,ac⟩:=(I.sm (Y _ I.lt)).put (by have:=ao.out;omega) xX (x:=x) (by have:=K.nm;omega) (.agg (A.setIfInBounds 21 (.slice la ln ln)));have bo:Hid (TM (rV r0) w6 G (k+1) (vT (Qj T (fun y=>L y && decide (y ≠ x))))):=hid (by
  have e:vT (Qj T (fun y=>L y && decide (y ≠ x)))=fun y=>if y=x then some (.agg (A.setIfInBounds 21 (.slice la ln ln))) else vT (Qj T L) y:=by
   funext y;by_cases hy:y=x
   ·subst hy;simp[vT,Qj,aB,hV]
   simp[vT,Qj,hy]
  rw[e];exact aO)
 have aK:Hid (TR (rV r0) w6 t r2 n (vT T) (fun y=>L y && decide (y ≠ x)) c2):=hid (a6.kept ((ac.block _ (by have:=I.lt;omega) (fun e=>by cases e;omega)).trans (Y _ (by have:=I.lt;omega))) ((ac.block _ (by have:=a6.lt.1;omega) (fun e=>by cases e;omega)).trans (Y _ a6.lt.1)))
 have b7:Hid (Below G w w6):=hid (aR.grown ac (by have:=I.lt;omega) (fun q hq=>by cases hq;exact Wz8 _));have aI:=hid aW;have bg:=hid HA.out.i;have aH:Hid (k+1+c2<=n):=hid (by have:=ao.out;omega);rw[HA.out.e] at hr aS;unfold sV at hr aS aI;clear e1 e2 e3 az K hM a6 aw bC J I ax j Y aZ aR hV aO ac aW aB hL aU bz a8;go_wp2_with (first
  | (at_next;refine z8 rfl _ (qW rfl rfl hr) ?_;go_frame)
  | (refine zq rfl 129 (.tmp 7) (.tmp 19) rfl _ A rfl rfl HA.out.i HA.out.z HA.out.o ?_;rw[ah];go_frame)
  | (refine zX rfl 129 (.tmp 7) rfl w3.heap.size _ 129 (0,0) _ rfl bf.out underlying129 rfl (by rw[Array.size_setIfInBounds];exact bg.out) ?_;go_frame)
  | (at_mapUpdate;refine xK rfl (xq (mv:=.map (some G)) (kv:=.string ⟨x.toArray⟩) rfl rfl rfl rfl aI.out) ?_;go_frame))
 go_roundg c2;case measure=>omega
 case rel=>exact⟨c2,k+1,_,rfl,aH,aK,bo,b7⟩
end Go.Proofs.YtdnphaganajejaaGreatDoor.K
