import Derived.Test.YtdnphaganajejaaGreatDoorMz15
import Derived.Test.YtdnphaganajejaaGreatDoorMz16
set_option linter.unusedSimpArgs false
set_option linter.unusedVariables false
set_option maxRecDepth 20000
set_option maxHeartbeats 4000000
open Nat renaming le_refl->Wz8
namespace Go.Proofs.YtdnphaganajejaaGreatDoor.K
open Go.Proofs.Tryz
open Go.RowKit
theorem zxx (S:Nat->Prop) (g t n:Nat) (T:Ts) (s:Sp) (w:World) (h:To S g w t n T) (hs:vV s) (hn:n<=90000) (D:s.word=wR) :
  Calls prog 86 #[.map (some t),.agg (zJ s).toArray] w fun e w'=>e=.returned (.tuple #[])/\(∃ T',To S g w' t (n+1) T'/\aT T'=Rk.tk (aT T) (sP s))/\Bg g w w':=by
 obtain⟨B,HS⟩:=sa s hs w.heap.size;obtain⟨Z,az,am⟩:=SJ h s.name hs.nm;obtain⟨A,HA⟩:=ra (gR T s.name) Z.id.1;obtain⟨w1,ao⟩:∃ w1,w.alloc (.cells B 146)=w1:=⟨_,rfl⟩;obtain⟨w2,a8⟩:∃ w2,w1.alloc (.cells A 129)=w2:=⟨_,rfl⟩;have J:w1.heap[w.heap.size]? = some (.cells B 146):=by rw[<-ao];exact heap_alloc_new _ _
 have O:Below w.heap.size w w1:=by rw[<-ao];exact(Below.refl _ w).alloc (Wz8 _) _
 have L:Below w1.heap.size w1 w2:=by rw[<-a8];exact(Below.refl _ w1).alloc (Wz8 _) _
 have j:w2.heap[w.heap.size]? = some (.cells B 146):=(L.block _ (z7 J)).trans J;have ag:Below w.heap.size w w2:=O.trans (L.mono O.size);have a6:=h.below ag;have ay:(Instr.lookup 56 (.map (some t)) (sV s.name) false).run prog w1=.ok (.agg A) w1:=by
  have:=(h.below O).tt.tm.look1 xX (j7 w1) (x:=s.name) (by have:=hs.nm;omega);rw[am,HA.out.e] at this;exact this
 have aw:=HS.out.c1 w1 J;have ah:=HS.out.c0 w2 j;have ax:=HS.out.c1 w2 j;have ac:=hid (HS.out.r2 w2 j);have M:=HS.out.c22 w2 j;have aj:=(vZ HA.out Z.id.1 w1).2;rw[a8] at aj;rw[D] at ah;rw[HS.out.e];have av:Hid (sP s=(s.name,.inl (s.id,[]))):=hid (by unfold sP;rw[D];rfl)
 obtain⟨r1,G⟩:=nn_ (⟨s.id,[],(gR T s.name).a,(gR T s.name).c,(gR T s.name).log⟩:Lr);have ak:=a6.tt.tm.put (by omega) xX (x:=s.name) (by have:=hs.nm;omega) (rV r1);obtain⟨w3,K,ae,ai⟩:=ak;have a7:=a6.put (x:=s.name) (some r1) hs.nm (fun r hr=>by cases hr;rw[G.out];exact⟨hs.id,by simp,rfl,rfl,rfl⟩) (by rw[SK];exact ae) ai
 have ar:Hid (∀ w3,Bg g w2 w3->Bg g w w3):=fun w3 hb=>Bg.of ag (by have:=h.tt.tm.lt;have:=h.ge;omega) hb;have HE:Hid ((∃ T',To S g w3 t (n+1) T'/\aT T'=Rk.tk (aT T) (sP s))/\Bg g w w3):=hid ⟨⟨_,a7.1,by rw[av.out,zxz T s.name (s.id,[]) r1 (by rw[G.out]) (by rw[G.out])];rfl⟩,ar.out _ a7.2⟩
 obtain⟨la,ln,lc,Y⟩:∃ a n c,(Value.slice (gR T s.name).a (gR T s.name).log.length (gR T s.name).c)=.slice a n c:=⟨_,_,_,rfl⟩;obtain⟨R,I⟩:∃ R,row .u8 s.id=R:=⟨_,rfl⟩;have ad:Hid ((prog.info? 116).map (·.size)=some R.length):=hid (by rw[<-I,zv,hs.id.1];kernel_rfl)
 have Q:∀ W:World,(Instr.build 129 #[(0,.agg R.toArray),(2,.slice la ln lc)]).run prog W=.ok (rV r1) W:=fun W=>by rw[<-I,<-Y,qzv _ hs.id.1,G.out];rfl
 rw[I] at ac;rw[Y] at aj;obtain⟨V,hV⟩:∃ V,rV r1=V:=⟨_,rfl⟩;rw[hV] at K Q;unfold sV at K ay aw ax M;unfold sV wR at ah;have ap:=hid Q;have au:=hid K;clear hV I Y a7 ae ai a6 h Z az am Q K M J j;go_enter func86,ntmps86;go_wp2_with (first
  | (refine zq rfl 129 (.tmp 4) (.tmp 8) rfl _ A rfl rfl HA.out.i HA.out.z HA.out.o ?_;rw[a8])
  | (refine wpList_load_mid rfl 116 (.tmp 16) rfl _ 2 rfl R _ ac.out underlying116 rfl ad.out ?_)
  | (refine z8 rfl V (vz 129 0 2 (.tmp 17) (.tmp 19) rfl (.agg R.toArray) (.slice la ln lc) V rfl rfl (ap.out _)) ?_)
  | (at_mapUpdate;refine xK rfl (xq (mv:=.map (some t)) (kv:=.string ⟨s.name.toArray⟩) (v:=V) rfl rfl rfl rfl au.out) ?_))
 exact bodyPost_end (results_none results86 _ _ _) rfl ⟨rfl,HE.out⟩
theorem zz3 (S:Nat->Prop) (g t n:Nat) (T:Ts) (s:Sp) (w:World) (h:To S g w t n T) (hs:vV s) (hn:n<=90000) (D:s.word=wL) :
  Calls prog 86 #[.map (some t),.agg (zJ s).toArray] w fun e w'=>e=.returned (.tuple #[])/\(∃ T',To S g w' t (n+1) T'/\aT T'=Rk.tk (aT T) (sP s))/\Bg g w w':=by
 obtain⟨B,HS⟩:=sa s hs w.heap.size;obtain⟨Q,aw,ai⟩:=SJ h s.name hs.nm;obtain⟨A,HA⟩:=ra (gR T s.name) Q.id.1;obtain⟨w1,aj⟩:∃ w1,w.alloc (.cells B 146)=w1:=⟨_,rfl⟩;obtain⟨w2,a6⟩:∃ w2,w1.alloc (.cells A 129)=w2:=⟨_,rfl⟩;have I:w1.heap[w.heap.size]? = some (.cells B 146):=by rw[<-aj];exact heap_alloc_new _ _
 have L:Below w.heap.size w w1:=by rw[<-aj];exact(Below.refl _ w).alloc (Wz8 _) _
 have K:Below w1.heap.size w1 w2:=by rw[<-a6];exact(Below.refl _ w1).alloc (Wz8 _) _
 have j:w2.heap[w.heap.size]? = some (.cells B 146):=(K.block _ (z7 I)).trans I;have a8:Below w.heap.size w w2:=L.trans (K.mono L.size);have Y:=h.below a8;have av:(Instr.lookup 56 (.map (some t)) (sV s.name) false).run prog w1=.ok (.agg A) w1:=by
  have:=(h.below L).tt.tm.look1 xX (j7 w1) (x:=s.name) (by have:=hs.nm;omega);rw[ai,HA.out.e] at this;exact this
 have ar:=HS.out.c1 w1 I;have ac:=HS.out.c0 w2 j;have au:=HS.out.c1 w2 j;have ax:=hid (HS.out.r2 w2 j);have ad:=HS.out.c22 w2 j;have ag:=(vZ HA.out Q.id.1 w1).2;rw[a6] at ag;rw[D] at ac;rw[HS.out.e];have ap:Hid (sP s=(s.name,.inl (zZ,s.tg))):=hid (by unfold sP;rw[D];rfl)
 obtain⟨r1,G⟩:=nn_ (⟨zZ,s.tg,(gR T s.name).a,(gR T s.name).c,(gR T s.name).log⟩:Lr);have ah:=Y.tt.tm.put (by omega) xX (x:=s.name) (by have:=hs.nm;omega) (rV r1);obtain⟨w3,J,a7,ae⟩:=ah
 have Z:=Y.put (x:=s.name) (some r1) hs.nm (fun r hr=>by cases hr;rw[G.out];exact⟨⟨rfl,fun n hn=>by rw[List.eq_of_mem_replicate hn];exact⟨by decide,by decide⟩⟩,hs.tg,rfl,rfl,rfl⟩) (by rw[SK];exact a7) ae;have am:Hid (∀ w3,Bg g w2 w3->Bg g w w3):=fun w3 hb=>Bg.of a8 (by have:=h.tt.tm.lt;have:=h.ge;omega) hb
 have HE:Hid ((∃ T',To S g w3 t (n+1) T'/\aT T'=Rk.tk (aT T) (sP s))/\Bg g w w3):=hid ⟨⟨_,Z.1,by rw[ap.out,zxz T s.name (zZ,s.tg) r1 (by rw[G.out]) (by rw[G.out])];rfl⟩,am.out _ Z.2⟩;obtain⟨la,ln,lc,O⟩:∃ a n c,(Value.slice (gR T s.name).a (gR T s.name).log.length (gR T s.name).c)=.slice a n c:=⟨_,_,_,rfl⟩
 have M:∀ W:World,(Instr.build 129 #[(1,.string ⟨s.tg.toArray⟩),(2,.slice la ln lc)]).run prog W=.ok (rV r1) W:=fun W=>by rw[<-O,qzw,G.out];rfl
 rw[O] at ag;obtain⟨V,hV⟩:∃ V,rV r1=V:=⟨_,rfl⟩;rw[hV] at J M;unfold sV at J av ar au ad;unfold sV wL at ac;have ak:=hid M;have ao:=hid J;clear hV O Z a7 ae Y h Q aw ai M J I j;go_enter func86,ntmps86;go_wp2_with (first
  | (refine zq rfl 129 (.tmp 4) (.tmp 8) rfl _ A rfl rfl HA.out.i HA.out.z HA.out.o ?_;rw[a6])
  | (refine z8 rfl V (vz 129 1 2 (.tmp 27) (.tmp 29) rfl (.string ⟨s.tg.toArray⟩) (.slice la ln lc) V rfl rfl (ak.out _)) ?_)
  | (at_mapUpdate;refine xK rfl (xq (mv:=.map (some t)) (kv:=.string ⟨s.name.toArray⟩) (v:=V) rfl rfl rfl rfl ao.out) ?_))
 exact bodyPost_end (results_none results86 _ _ _) rfl ⟨rfl,HE.out⟩
theorem zz4 (S:Nat->Prop) (g t n:Nat) (T:Ts) (s:Sp) (w:World) (h:To S g w t n T) (hs:vV s) (hn:n<=90000) (D:s.word=wD) :
  Calls prog 86 #[.map (some t),.agg (zJ s).toArray] w fun e w'=>e=.returned (.tuple #[])/\(∃ Z,To S g w' t (n+1) Z/\aT Z=Rk.tk (aT T) (sP s))/\Bg g w w':=by
 obtain⟨B,V⟩:=sa s hs w.heap.size;obtain⟨K,ar,ae⟩:=SJ h s.name hs.nm;obtain⟨A,Y⟩:=ra (gR T s.name) K.id.1;obtain⟨w1,ag⟩:∃ w1,w.alloc (.cells B 146)=w1:=⟨_,rfl⟩;obtain⟨w2,Q⟩:∃ w2,w1.alloc (.cells A 129)=w2:=⟨_,rfl⟩;have G:w1.heap[w.heap.size]? = some (.cells B 146):=by rw[<-ag];exact heap_alloc_new _ _
 have J:Below w.heap.size w w1:=by rw[<-ag];exact(Below.refl _ w).alloc (Wz8 _) _
 have I:Below w1.heap.size w1 w2:=by rw[<-Q];exact(Below.refl _ w1).alloc (Wz8 _) _
 have j:w2.heap[w.heap.size]? = some (.cells B 146):=(I.block _ (z7 G)).trans G;have a7:Below w.heap.size w w2:=J.trans (I.mono J.size);have M:=h.below a7;have ap:(Instr.lookup 56 (.map (some t)) (sV s.name) false).run prog w1=.ok (.agg A) w1:=by
  have:=(h.below J).tt.tm.look1 xX (j7 w1) (x:=s.name) (by have:=hs.nm;omega);rw[ae,Y.out.e] at this;exact this
 have ak:=V.out.c1 w1 G;have a8:=V.out.c0 w2 j;have am:=V.out.c1 w2 j;have au:=hid (V.out.r2 w2 j);have ac:=V.out.c22 w2 j;have ao:=(vZ Y.out K.id.1 w1).2;rw[Q] at ao;rw[D] at a8;rw[V.out.e];have aj:Hid (sP s=(s.name,.inr (.inl ()))):=hid (by unfold sP;rw[D];rfl)
 obtain⟨w3,L,a6,ad⟩:=M.tt.tm.del xX (x:=s.name) (by have:=hs.nm;omega) 0;have O:=M.put (x:=s.name) none hs.nm (fun r hr=>by cases hr) (by rw[SK];exact a6.mono (by omega)) ad;have ah:Hid (∀ w3,Bg g w2 w3->Bg g w w3):=fun w3 hb=>Bg.of a7 (by have:=h.tt.tm.lt;have:=h.ge;omega) hb
 have HE:Hid ((∃ Z,To S g w3 t (n+1) Z/\aT Z=Rk.tk (aT T) (sP s))/\Bg g w w3):=hid ⟨⟨_,O.1,by rw[aj.out,qu3];rfl⟩,ah.out _ O.2⟩;unfold sV at L ap ak am ac;unfold sV wD at a8;have ai:=hid L;clear O a6 ad M h K ar ae L G j;go_enter func86,ntmps86;go_wp2_with (first
  | (refine zq rfl 129 (.tmp 4) (.tmp 8) rfl _ A rfl rfl Y.out.i Y.out.z Y.out.o ?_;rw[Q])
  | (at_delete;refine z8 rfl _ (Uz (mv:=.map (some t)) (kv:=.string ⟨s.name.toArray⟩) rfl rfl rfl ai.out) ?_))
 exact bodyPost_end (results_none results86 _ _ _) rfl ⟨rfl,HE.out⟩
theorem qv {w:World} {B B' e k n:Nat} {v:Value} {xs:List Value} (h:w.ownsRow B e k v n xs) (hB:B'<=B):w.ownsRow B' e k v n xs:=by
 obtain⟨j,A | ⟨g,cap,cur,hv,hb,r⟩⟩:=h
 ·exact⟨j,.inl A⟩
 exact⟨j,.inr ⟨g,cap,cur,hv,Nat.le_trans hB hb,r⟩⟩
theorem Bq {a6:Array Oper} {rest:List Oper} {o:Oper} {a:Act} {w:World} {Q:Exit->Act->World->Prop} (O:o.guard=none) (s x:Operand) (ho:o.op=.call { callee:=.builtin .append,args:=#[s,x],argTypes:=#[127,127] }) (g:Nat) (r:Lr) (e:Le) (K:Nat)
    (hs:a.eval s=.slice r.a r.log.length r.c) (hx:a.eval x=.slice (some ⟨K,0,none⟩) 1 1) (hP:Px qw 45 dL w (some ⟨K,0,none⟩) 1 [e]) (A:Px qw 45 dL w r.a r.c r.log) (Z:∀ e ∈ r.log,vY e) (he:vY e) (a8:LgO g w r) (hg:g<=w.heap.size) (hl:r.log.length+1<=100000)
    (hK:∀ L M w',Ap g w w' r (r.log++[e]) (.slice L (r.log++[e]).length M)->wpList prog a6 Q rest (a.put o.dst (.slice L (r.log++[e]).length M)) w'):wpList prog a6 Q (o :: rest) a w:=by
  have D:∀ y ∈ [e],(qw y).length=45:=fun y hy=>by rw[List.mem_singleton.1 hy];exact yQ he
  by_cases hc:r.c=r.log.length
  · obtain⟨i,hi,ad,ae,ag⟩:=qQ UW
    refine wpList_append_grows w O s x 127 ho 133 i _ 45 104 SX hi ad ae ag rfl (by decide) r.a r.log.length r.c (r.log.flatMap qw) hs (fun hn=>?_) (Jz r.log fun e h=>yQ (Z e h)) (fun b hb j u V=>?_) ⟨K,0,none⟩ 1 1 (qw e) hx (by rw[yQ he]) (fun j u V=>?_) (uZ e) (by omega) (by unfold maxLen;omega) (by omega) fun v' w' G I=>?_
    · have:=A.nil hn;omega
    · have ac:0<r.log.length:=by
        cases a7:r.log with
        | nil=>rw[a7] at V;simp at V
        | cons _ _=>simp
      obtain⟨b',off,e1,_⟩:=A.at_ ac
      rw[e1] at hb
      cases hb
      rw[e1] at A
      exact A.cells (by decide) (fun e h=>yQ (Z e h)) j u V
    · have:=hP.cells (by decide) D j u (by simpa using V)
      exact this
    · obtain⟨L,M,rfl⟩:=zu G
      have e1:r.log.length+1=(r.log++[e]).length:=by simp
      rw[e1]
      refine hK L M w' ⟨?_,I.os,I.tape,I.output,I.size,fun i hi _=>I.block i hi (by simp),fun b hb=>.inr ?_⟩
      · rw[<-e1,List.flatMap_append,List.flatMap_singleton]
        exact qv G hg
      · exact(yu G b (by rw[<-e1] at hb;exact hb)).1
  · have Y:w.ownsRow g 133 45 (.slice r.a r.log.length r.c) r.log.length (r.log.flatMap qw):=by
      rcases a8 with k | k
      · exact absurd k hc
      · exact k
    refine zy (enc:=qw) (k:=45) (d:=dL) O s x 127 133 SX UW rfl (by decide) (by decide) uZ ho g _ r.log hs ⟨Below.refl _ _,Y,hg⟩ (some ⟨K,0,none⟩) 1 [e] hx hP D (by simp;omega) fun v' w' G I J=>?_
    obtain⟨L,M,rfl⟩:=zu G.own
    refine hK L M w' ⟨G.own,J.os,J.tape,J.output,J.size,fun i hi hn=>J.blk i hi (hn hc),fun b hb=>?_⟩
    rcases J.at_ with k | k
    · exact .inl ⟨hc,by rw[<-k];exact hb⟩
    · exact .inr (k b hb)
theorem zxj (e:Le) (h:vY e) (w:World):(Instr.buildSlice 127 1 #[(0,.agg (qw e).toArray)]).run prog w=.ok (.slice (some ⟨w.heap.size,0,none⟩) 1 1) (w.alloc (.cells (qw e).toArray 133)):=by
 obtain⟨i,hq,hz,hs,_⟩:=qQ UW;refine run_buildSlice w 127 133 1 _ (qw e).toArray i _ SX hq hz (by rw[hs];decide) (by rw[hs];decide) ?_;rw[hs];obtain⟨x,y,⟨pn,pm,pt,pz⟩,tx⟩:=e;obtain⟨a0,a1,a2,a3,a4,a5,a6,a7,a8,a9,j,A,D,G,I,J,K,L,M,O,rfl⟩:=yJ x h.1.1
 obtain⟨b0,b1,b2,b3,b4,b5,b6,b7,b8,b9,Q,V,Y,Z,ac,ad,ae,ag,ah,ai,rfl⟩:=yJ y h.2.1;unfold qw sV;simp only;generalize (⟨pn.toArray⟩:ByteArray)=P1;generalize (⟨pm.toArray⟩:ByteArray)=P2;generalize (⟨tx.toArray⟩:ByteArray)=P3;kernel_rfl
theorem qJ {P:Program} {o:Oper} {a:Act} {w w':World} (t:TypeId) (x:Operand) (j:o.op=.buildSlice t 1 #[(0,x)]) (u v:Value) (h:a.eval x=u) (hr:(Instr.buildSlice t 1 #[(0,u)]).run P w=.ok v w'):(execOp a.eval o).run P w=.ok (.value v) w':=by
 unfold execOp;simp[j,h,hr,Result.andThen]
end Go.Proofs.YtdnphaganajejaaGreatDoor.K
