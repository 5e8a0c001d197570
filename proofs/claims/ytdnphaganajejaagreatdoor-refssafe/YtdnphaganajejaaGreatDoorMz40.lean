import Derived.Test.YtdnphaganajejaaGreatDoorMz37
import Derived.Test.YtdnphaganajejaaGreatDoorMz38
set_option linter.unusedSimpArgs false
set_option linter.unusedVariables false
set_option maxRecDepth 20000
set_option maxHeartbeats 4000000
namespace Go.Proofs.YtdnphaganajejaaGreatDoor.K
open Go.Proofs.Tryz
open Go.RowKit
theorem results8:f8.results=#[.tmp 2]:=by kernel_rfl
theorem MJ {S XE:Nat->Prop} {R:Nat} {w:World} {t n:Nat} {T:Ts} (h:Tt (SrE S R XE) w t n T) {X:Nat} (A:XE X) (j:Nat) (v:Value):Tt (SrE S R XE) (w.setCell ⟨X,j,none⟩ v) t n T:=by
 have t2:=(h.to (S':=fun i=>i=X) (fun i hi=>.inl (.inr (hi ▸ A)))).al (Al.of_set (S:=fun i=>i=X) (p:=⟨X,j,none⟩) rfl v);refine⟨t2.tm,fun x r hr=>?_,h.out⟩;have a:=t2.at_ x r hr;have b:=h.at_ x r hr;exact⟨a.nm,a.id,a.tg,a.px,a.few,a.ok,fun p D=>⟨(b.out p D).1,(a.out p D).2⟩⟩
theorem Pv.set34 {S XE:Nat->Prop} {N D R:Nat} {w:World} {q:Bool} {o z:Option Str} {go un:Bool} {t n:Nat} {T:Ts} (h:Pv S XE N D R w q o z go un t n T) {X:Nat} {c:Array Value} (K:w.heap[X]? = some (.cells c 41 (0,0))) (A:XE X) (G:R ≠ X) (j:Nat) (v:Value):Pv S XE N D R (w.setCell ⟨X,j,none⟩ v) q o z go un t n T:=by
 obtain⟨a,I,J⟩:=h.dm;exact⟨⟨a,I.tf (Tf.set (p:=⟨X,j,none⟩) K v) (by simp[World.setCell]) (by decide),J⟩,⟨by rw[Below.heap_setCell _ _ _ R G];exact h.rf.box⟩,h.nS,fun i hi=>by have:=h.lim i hi;simp[World.setCell];exact this,MJ h.tt A j v⟩
theorem Pw.set34 {S XE:Nat->Prop} {N D R:Nat} {w:World} {f:Fq} {t n:Nat} {T:Ts} (h:Pw S XE N D R w f t n T) {X:Nat} {c:Array Value} (K:w.heap[X]? = some (.cells c 41 (0,0))) (A:XE X) (G:R ≠ X) (j:Nat) (v:Value):Pw S XE N D R (w.setCell ⟨X,j,none⟩ v) f t n T:=by
 obtain⟨a,I,J⟩:=h.dm;exact⟨⟨a,I.tf (Tf.set (p:=⟨X,j,none⟩) K v) (by simp[World.setCell]) (by decide),J⟩,⟨by rw[Below.heap_setCell _ _ _ R G];exact h.rf.box⟩,h.nS,fun i hi=>by have:=h.lim i hi;simp[World.setCell];exact this,MJ h.tt A j v,h.gf⟩
def Wx (w:World) (X D R Q:Nat):Prop:=w.heap[X]? = some (.cells #[.pointer (some ⟨D,0,none⟩),.pointer (some ⟨R,0,none⟩),.pointer (some ⟨Q,0,none⟩)] 41 (0,0))
def zju (S XE:Nat->Prop) (N D X:Nat) (f:Option Str) (go:Bool) (m:Rk.Tb Str Kp Le) (k:Nat) (v2:Value) (w:World) (e:Ending) (w':World):Prop:=e=.returned (.bool true)/\∃ R t T S',w.heap.size<=R/\Pw S' XE N D R w' ⟨true,f,go⟩ t k T/\aT T=m/\w'.heap[X]? = some (.cells #[.pointer (some ⟨D,0,none⟩),.pointer (some ⟨R,0,none⟩),v2] 41 (0,0))/\Al (fun i=>S i ∨ i=X) w w'/\(∀ i,S i->S' i)/\∀ i,S' i->S i ∨ w.heap.size<=i
theorem zjZ (S XE:Nat->Prop) (N D X:Nat) (f:Option Str) (go:Bool) (m:Rk.Tb Str Kp Le) (k:Nat) (Q v2:Value) (w:World) (h:Calls prog 5 #[.pointer (some ⟨D,0,none⟩)] w (L7 S XE N D f go m k w)) (A:w.heap[X]? = some (.cells #[.pointer (some ⟨D,0,none⟩),Q,v2] 41 (0,0))) (M:¬ S X) (L:XE X) :
  Calls prog 8 #[.pointer (some ⟨X,0,none⟩)] w (zju S XE N D X f go m k v2 w):=by
 have a6:w.cell? ⟨X,0,none⟩=some (.pointer (some ⟨D,0,none⟩)):=by simp[World.cell?,A]
 have j:Hid (Calls prog 5 #[.pointer (some ⟨D,0,none⟩)] w fun e w1=>∃ R,e=.returned (.tuple #[.pointer (some ⟨R,0,none⟩),.nilIface])/\w1.cell? ⟨X,1,none⟩=some Q/\w1.frozen? ⟨X,1,none⟩=false/\∀ w3,Below (w1.setCell ⟨X,1,none⟩ (.pointer (some ⟨R,0,none⟩))).heap.size (w1.setCell ⟨X,1,none⟩ (.pointer (some ⟨R,0,none⟩))) w3->zju S XE N D X f go m k v2 w (.returned (.bool true)) w3):=hid (h.mono (by
  rintro e w1 ⟨R,t,T,S',rfl,hR,hp,hA,G,O,I⟩;have hx1:w1.heap[X]? = some (.cells #[.pointer (some ⟨D,0,none⟩),Q,v2] 41 (0,0)):=(G.blk X (z7 A) M).trans A;have K:R ≠ X:=by have:=z7 A;omega
  refine⟨R,rfl,by simp[World.cell?,hx1],by simp[World.frozen?,hx1],fun w3 hb=>⟨rfl,R,t,T,S',hR,(hp.set34 hx1 L K 1 _).below hb,hA,?_,?_,O,I⟩⟩
  ·have V:(w1.setCell ⟨X,1,none⟩ (.pointer (some ⟨R,0,none⟩))).heap[X]? = some (.cells #[.pointer (some ⟨D,0,none⟩),.pointer (some ⟨R,0,none⟩),v2] 41 (0,0)):=(by rw[zV hx1];rfl);exact(hb.block X (z7 V)).trans V
  exact((G.mono (S':=fun i=>S i ∨ i=X) (fun i hi=>.inl hi)).trans (Al.of_set (S:=fun i=>S i ∨ i=X) (p:=⟨X,1,none⟩) (.inr rfl) _) (fun i hi=>.inl hi)).trans (Al.below (S:=fun i=>S i ∨ i=X) hb) (fun i hi=>.inl hi)))
 have J:=fun W=>V5 W;clear h A;go_enter func8,ntmps8;go_wp2_with (first
  | (go_at_call 5;refine j.out.mono ?_;rintro e w1 ⟨R,rfl,z1,z2,z3⟩;have Z:=hid z3;clear z3 j)
  | (go_at_call 7;refine(J _).mono ?_;rintro e w3 ⟨rfl,hb⟩;have Y:=hid (Z.out w3 hb);clear hb J))
 exact bodyPost_ret (results_tmp results8 _ _ _) rfl Y.out
theorem Lj {w:World} {B e k n:Nat} {v:Value} {xs:List Value} (h:w.ownsRow B e k v n xs) {i:Nat} (hi:v.ownBlock=some i):∃ cur,w.heap[i]? = some (.cells cur e (0,0)):=by
 obtain⟨_,⟨rfl,rfl⟩ | ⟨g,cap,cur,rfl,_,j,_⟩⟩:=h
 ·cases hi
 simp only[Value.ownBlock,Option.some.injEq] at hi;subst hi;exact⟨cur,j⟩
theorem Lk {P:Nat->Prop} {w W:World} {B e k n:Nat} {v:Value} {xs:List Value} (h:w.ownsRow B e k v n xs) (G:Al P w W) (D:∀ i,v.ownBlock=some i->¬ P i):W.ownsRow B e k v n xs:=by
 obtain⟨A,h0 | ⟨g,cap,cur,hv,hb,j,rest⟩⟩:=h
 ·exact⟨A,.inl h0⟩
 exact⟨A,.inr ⟨g,cap,cur,hv,hb,(G.blk g (z7 j) (D g (by rw[hv];rfl))).trans j,rest⟩⟩
theorem Dq.low {G Q:Nat} {w:World} {j v2:Value} {rs:List Rx} {ls:List Ex} (h:Dq G w Q j v2 rs ls):Dq 0 w Q j v2 rs ls:=⟨h.box,qv h.r1 (Nat.zero_le _),qv h.r2 (Nat.zero_le _),h.ok1,h.ok2,h.few⟩
theorem vQ {P:Nat->Prop} {b:Nat} {w w':World} (h:Al P w w') (j:∀ i,P i->b<=i) (hb:b<=w.heap.size):Below b w w':=⟨h.os,h.tape,h.output,h.size,fun i hi=>h.blk i (by omega) (fun A=>by have:=j i A;omega)⟩
theorem qv1 {C:Nat} {w w':World} {c:Array Value} {T:TypeId} {f:Nat × Nat} (h:Al (fun i=>i=C) w w') (hc:w.heap[C]? = some (.cells c T f)):Tf T w w':=fun i o j A D=>by
 by_cases e:i=C
 ·subst e;rw[hc] at j;cases j
  exact absurd rfl (A _ _)
 exact(h.blk i (z7 j) e).trans j
theorem Pv.doc {S XE:Nat->Prop} {N D R:Nat} {w w':World} {q:Bool} {o z:Option Str} {go un:Bool} {t n:Nat} {T:Ts} (h:Pv S XE N D R w q o z go un t n T) {C:Nat} (J:XE C) {c:Array Value} (hc:w.heap[C]? = some (.cells c 39 (0,0))) (j:Al (fun i=>i=C) w w'):Pv S XE N D R w' q o z go un t n T:=by
 have A:R ≠ C:=fun e=>by
  have:=h.rf.box;rw[e,hc] at this;cases this
 obtain⟨a,G,I⟩:=h.dm;exact⟨⟨a,G.tf (qv1 j hc) j.size (by decide),I⟩,⟨(j.blk R (z7 h.rf.box) A).trans h.rf.box⟩,h.nS,fun i hi=>Nat.lt_of_lt_of_le (h.lim i hi) j.size,h.tt.al (j.mono (fun i hi=>.inr (hi ▸ J)))⟩
theorem Er.doc {b:Nat} {j:Int} {w w':World} (h:Er b j w) {C:Nat} {c:Array Value} (hc:w.heap[C]? = some (.cells c 39 (0,0))) (A:Al (fun i=>i=C) w w'):Er b j w':=h.tf (qv1 A hc) (by decide)
theorem Pw.typed {S XE:Nat->Prop} {N D R:Nat} {w:World} {f:Fq} {t n:Nat} {T:Ts} (h:Pw S XE N D R w f t n T):Pw (Sn S w) XE N D R w f t n T:=by
 obtain⟨a,j,A⟩:=h.dm;exact⟨⟨a,j.typed,A⟩,h.rf,fun G=>h.nS G.1,fun i hi=>h.lim i (by rcases hi with (hi | hi) | hi;exact .inl (.inl hi.1);exact .inl (.inr hi);exact .inr hi),h.tt.to (fun i hi=>.inl (by rcases hi with (hi | hi) | hi;exact .inl (.inl hi.1);exact .inl (.inr hi);exact .inr hi)),h.gf⟩
structure Gs (b0 k:Nat) (q:Bool) (S XE:Nat->Prop) (N D R t n:Nat) (T:Ts) (F:Option Str) (go:Bool) (Q:Nat) (rs:List Rx) (ls:List Ex) (w:World):Prop where
 pw:Pw S XE N D R w ⟨q,F,go⟩ t n T
 dq:∃ v1 v2,Dq 0 w Q v1 v2 rs ls
 iv:Iv k (aT T) rs ls
 fl:FlG k (aT T) F go
 n1:n<=201*k
 n2:N<=2
 lo:(∀ i,S i->b0<=i)/\b0<=R/\b0<=Q
 sz:b0<=w.heap.size
theorem Gs.below {b0 k:Nat} {q:Bool} {S XE:Nat->Prop} {N D R t n:Nat} {T:Ts} {F:Option Str} {go:Bool} {Q:Nat} {rs:List Rx} {ls:List Ex} {w W:World} (h:Gs b0 k q S XE N D R t n T F go Q rs ls w) (hb:Below w.heap.size w W):Gs b0 k q S XE N D R t n T F go Q rs ls W:=by
 obtain⟨j,v2,hd⟩:=h.dq;exact⟨h.pw.below hb,⟨j,v2,hd.below hb⟩,h.iv,h.fl,h.n1,h.n2,h.lo,Nat.le_trans h.sz hb.size⟩
structure Gb (w:World):Prop where
 tab:Tab w
 ers:Ers w
 mx:Mx w
 db:Db w
 ec:Ec w
 c0:C00 w
theorem Gb.below {w W:World} (h:Gb w) (hb:Below w.heap.size w W):Gb W:=⟨h.tab.below hb,h.ers.below hb,h.mx.below hb,h.db.below hb,h.ec.below hb,h.c0.below hb⟩
end Go.Proofs.YtdnphaganajejaaGreatDoor.K
