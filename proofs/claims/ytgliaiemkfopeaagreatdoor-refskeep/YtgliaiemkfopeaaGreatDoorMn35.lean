import Derived.Test.YtgliaiemkfopeaaGreatDoorMn34
set_option linter.unusedSimpArgs false
set_option linter.unusedVariables false
set_option maxRecDepth 20000
set_option maxHeartbeats 4000000
namespace Go.Proofs.YtgliaiemkfopeaaGreatDoor.K
open Go.RowKit
theorem fB_pos {k:Nat} {m:Rk.Tb Str Kp Le} {bs:List (List Sp)} (h:Fl k m bs) (hk:k<=100):0<(nm (fB bs)).length:=by
 rw[yX]
 cases bs with
 | nil=>exact absurd rfl h.ne
 | cons ss bs =>
  have h1:=Y3 ss (fun s hs=>(h.ok ss (List.mem_cons_self ..) s hs).st)
  have h2:=h.few
  rw[List.flatten_cons,List.length_append] at h2
  unfold fB
  rw[List.flatMap_cons,List.length_append]
  unfold bkS
  rw[List.length_append,uZ _ (by omega)]
  omega
theorem rots_st {b0 X k:Nat} {S XE:Nat->Prop} {N D R t n:Nat} {T:Ts} {o:Option (List (List Sp))} {Q:Nat} {rs:List Rx} {ls:List Ex} {W:World} (kn:Int) (hn1 : -9223372036854775808<=kn) (hn2:kn<=9223372036854775807) (hk:k<=100) (hg:Gs b0 k S XE N D R t n T o Q rs ls W) (hx:Wx W X D R Q) :
  Calls Tryz.prog 8 #[.pointer (some ⟨X,0,none⟩),.int .i64 kn] W fun e w1=>e=.returned (.tuple #[])/\∃ S' oz,Pz S' XE (N+2) D R w1 oz (Option.map fB o).isSome t n T/\(∀ z,oz=some z->z.length<=500000000)/\(∃ v1 v2,Dq 0 w1 Q v1 v2 rs ls)/\Wx w1 X D R Q/\(∀ i,S' i->b0<=i)/\Al (fun i=>S i/\nD W i) W w1:=by
 have hz:=hg.pw.z.typed
 obtain⟨v1,v2,hd⟩:=hg.dq
 have hcx:W.cell? ⟨X,0,none⟩=some (.pointer (some ⟨D,0,none⟩)):=by
  unfold Wx at hx
  simp[World.cell?,hx]
 have hN:=hg.n2
 have fin:∀ (e:Ending) (w1:World),e=.returned (.tuple #[])/\YJ (fun i=>S i/\nD W i) N D ((Option.map fB o).map nm) W w1->e=.returned (.tuple #[])/\∃ S' oz,Pz S' XE (N+2) D R w1 oz (Option.map fB o).isSome t n T/\(∀ z,oz=some z->z.length<=500000000)/\(∃ v1 v2,Dq 0 w1 Q v1 v2 rs ls)/\Wx w1 X D R Q/\(∀ i,S' i->b0<=i)/\Al (fun i=>S i/\nD W i) W w1:=by
  rintro e w1 ⟨rfl,o',h1,h2,h3⟩
  refine⟨rfl,_,o',⟨h1,hz.rf.al h3 hz.nS,fun hh=>?_,fun i hi=>?_,?_⟩,fun z hz'=>?_,⟨v1,v2,hd.alD h3 (fun i hi=>hi.2)⟩,?_,fun i hi=>?_,h3⟩
  ·rcases hh with hh | hh
   ·exact hz.nS hh
   ·have:=z7 hz.rf.box;omega
  ·rcases hi with ((hi | hi) | hi) | hi
   ·exact Nat.lt_of_lt_of_le (hz.lim i (.inl (.inl hi))) h3.size
   ·exact hi.2
   ·exact Nat.lt_of_lt_of_le (hz.lim i (.inl (.inr hi))) h3.size
   ·exact Nat.lt_of_lt_of_le (hz.lim i (.inr hi)) h3.size
  ·refine(hz.tt.to (S':=SrE (Sx (fun i=>S i/\nD W i) W w1) R XE) (fun i hi=>?_)).al (h3.mono (fun i hi=>.inl (.inl (.inl hi))))
   rcases hi with ((hi | hi) | hi) | hi
   ·exact .inl (.inl (.inl hi))
   ·exact .inr hi.1
   ·exact .inl (.inl (.inr hi))
   ·exact .inl (.inr hi)
  ·obtain⟨z0,e1,e2⟩:=h2 z hz'
   rw[e2]
   exact nm_b hg.fl hk z0 e1
  ·unfold Wx at hx ⊢
   exact(h3.blk X (z7 hx) (fun hi=>(hi.2 _ _ _ hx).2.2.2 rfl)).trans hx
  ·rcases hi with hi | hi
   ·exact hg.lo.1 i hi.1
   ·have:=hg.sz;omega
 cases o with
 | none=>exact(rots_none _ N D X kn W hz.fd (by omega) hcx).mono fin
 | some bs =>
  refine(rots_some _ N D X kn hn1 hn2 (nm (fB bs)) W hz.fd (fB_pos (show Fl k _ bs from hg.fl) hk) (nm_b hg.fl hk _ rfl) (by omega) (fun hi=>(hi.2 _ _ _ hx).2.2.2 rfl) (fun i hi=>hz.lim i (.inl (.inl hi))) hcx).mono fin
structure LsOk (w0:World) (s:Ls):Prop where
 px:Px qz 41 dMv w0 s.a s.c s.ms
 ok:∀ m ∈ s.ms,xw m
 sm:smL s
 nb : -9223372036854775808<=s.n/\s.n<=9223372036854775807
theorem do_all {w0:World} {X k:Nat} {S XE:Nat->Prop} {N D R t n:Nat} {T:Ts} {o:Option (List (List Sp))} {Q:Nat} {rs:List Rx} {ls:List Ex} (s:Ls) (w:World) (hk:k<100) (hb0:Below w0.heap.size w0 w) (hgb:Gb w0) (hg:Gs w0.heap.size k S XE N D R t n T o Q rs ls w) (hx:Wx w X D R Q) (hXE:XE X) (hs:LsOk w0 s) :
  Calls Tryz.prog 9 #[.pointer (some ⟨X,0,none⟩),.agg (uX s).toArray] w (uY w0 X k D R w):=by
 by_cases h1:s.k=1
 ·exact do1_any s w hk hb0 hgb hg hx hXE h1 hs.px hs.ok hs.sm
 by_cases h2:s.k=2
 ·exact do2_any s w hk hb0 hgb hg hx hXE h2
 by_cases h3:s.k=3
 ·exact do3_any s w hk hb0 hgb hg.pw.z (nm_b hg.fl (by omega)) hg.dq hg.iv hg.n1 (by have:=hg.n2;omega) ⟨hg.lo.1,hg.lo.2.1⟩ hx hXE h3
 by_cases h4:s.k=4
 ·exact do4_any s w hk hb0 hgb hg hx hXE h4 hs.nb
 exact do0_any s w hk hb0 hgb hg hx hXE h1 h2 h3 h4
def Chk (w0:World) (X k D R Q:Nat) (NB:ByteArray) (W:World):Prop:=Calls Tryz.prog 10 #[.pointer (some ⟨R,0,none⟩),.pointer (some ⟨Q,0,none⟩)] W fun e w1=>e=.returned (.bool true)/\Wx w1 X D R Q/\Calls Tryz.prog 11 #[.pointer (some ⟨R,0,none⟩),.pointer (some ⟨Q,0,none⟩),.string NB] w1 fun e w2=>e=.returned (.bool true)/\Wx w2 X D R Q/\Calls Tryz.prog 7 #[.pointer (some ⟨D,0,none⟩)] w2 fun e w3=>∃ D3,e=.returned (.pointer (some ⟨D3,0,none⟩))/\∃ W4,w3.alloc (.cells #[.pointer (some ⟨D3,0,none⟩),.pointer none,.pointer none] 34)=W4/\Calls Tryz.prog 6 #[.pointer (some ⟨w3.heap.size,0,none⟩)] W4 fun e w5=>e=.returned (.bool true)/\∃ R3,w5.cell? ⟨w3.heap.size,1,none⟩=some (.pointer (some ⟨R3,0,none⟩))/\Calls Tryz.prog 10 #[.pointer (some ⟨R3,0,none⟩),.pointer (some ⟨Q,0,none⟩)] w5 fun e w6=>e=.returned (.bool true)/\Inv w0 X k w6
def DoC (w0:World) (X k:Nat) (NB:ByteArray) (TA:Array Value) (W:World):Prop:=Calls Tryz.prog 9 #[.pointer (some ⟨X,0,none⟩),.agg TA] W fun e w5=>∃ kk C,e=.returned (.tuple #[.int .i64 kk,.pointer (some ⟨C,0,none⟩),.int .i64 kk])/\∃ Q0,w5.cell? ⟨X,2,none⟩=some (.pointer (some ⟨Q0,0,none⟩))/\w5.frozen? ⟨X,2,none⟩=false/\∃ D R W6,w5.cell? ⟨X,1,none⟩=some (.pointer (some ⟨R,0,none⟩))/\w5.setCell ⟨X,2,none⟩ (.pointer (some ⟨C,0,none⟩))=W6/\Wx W6 X D R C/\Chk w0 X (k+1) D R C NB W6
theorem do_chain {w0:World} {X k D R Q:Nat} {NB:ByteArray} {TA:Array Value} {W:World} (nme:Str) (hNB:(⟨nme.toArray⟩:ByteArray)=NB) (h:Calls Tryz.prog 9 #[.pointer (some ⟨X,0,none⟩),.agg TA] W (uY w0 X k D R W)) (hx:Wx W X D R Q) (hX0:w0.heap.size<=X) (hgb:Gb w0) (hk:k<100):DoC w0 X k NB TA W:=by
 refine h.mono ?_
 rintro e w5 ⟨kk,C,S',XE',N',t',n',T',o',rs',ls',rfl,hg,hXE,hbx,hb0⟩
 have hx5:Wx w5 X D R Q:=by unfold Wx at hx ⊢;rw[hbx];exact hx
 have hXC:C ≠ X:=fun e=>by
  obtain⟨v1,v2,hd⟩:=hg.dq
  have:=hd.box
  rw[e] at this
  unfold Wx at hx5
  rw[hx5] at this
  cases this
 obtain⟨W6,hW6⟩:∃ W6,w5.setCell ⟨X,2,none⟩ (.pointer (some ⟨C,0,none⟩))=W6:=⟨_,rfl⟩
 unfold Wx at hx5
 have hal:Al (fun i=>i=X) w5 W6:=by rw[<-hW6];exact Al.of_set (S:=fun i=>i=X) (p:=⟨X,2,none⟩) rfl _
 have hx6:Wx W6 X D R C:=by unfold Wx;rw[<-hW6,qy hx5];rfl
 have hRX:R ≠ X:=fun e=>by
  have:=hg.pw.rf.box
  rw[e,hx5] at this
  cases this
 have hpw6:Pw S' XE' N' D R W6 (Option.map fB o') t' n' T':=by rw[<-hW6];exact hg.pw.set34 hx5 hXE hRX 2 _
 have hg6:Gs w0.heap.size (k+1) S' XE' N' D R t' n' T' o' C rs' ls' W6:=by
  obtain⟨v1,v2,hd⟩:=hg.dq
  exact⟨hpw6,⟨v1,v2,hd.alX hal hx5⟩,hg.iv,hg.fl,hg.n1,hg.n2,hg.lo,Nat.le_trans hg.sz hal.size⟩
 have hb6:Below w0.heap.size w0 W6:=hb0.trans (uQ hal (fun i hi=>by rw[hi];exact hX0) hb0.size)
 refine⟨kk,C,rfl,Q,by simp[World.cell?,hx5],by simp[World.frozen?,hx5],D,R,W6,by simp[World.cell?,hx5],hW6,hx6,?_⟩
 have hinv:Inv w0 X (k+1) W6:=⟨S',XE',N',D,R,t',n',T',o',C,rs',ls',hg6,hx6,hXE,hb6,hX0⟩
 refine(chk nme NB hNB (by omega) hg6 hx6 hb6 hgb).mono ?_
 rintro e w1 ⟨he1,x1,c⟩
 refine⟨he1,x1,c.mono ?_⟩
 rintro e w2 ⟨he2,x2,c⟩
 refine⟨he2,x2,c.mono ?_⟩
 rintro e w3 ⟨D3,he3,W4,hW4,c⟩
 refine⟨D3,he3,W4,hW4,c.mono ?_⟩
 rintro e w5 ⟨he5,R3,hc,c⟩
 refine⟨he5,R3,hc,c.mono ?_⟩
 rintro e w6 ⟨he6,hb⟩
 exact⟨he6,hinv.below hb⟩
theorem body_a {w0:World} {X k:Nat} {NB:ByteArray} {W:World} (nme:Str) (hNB:(⟨nme.toArray⟩:ByteArray)=NB) (s:Ls) (hs:LsOk w0 s) (hgb:Gb w0) (hk:k<100) (h:Inv w0 X k W):DoC w0 X k NB (uX s).toArray W:=by
 obtain⟨S,XE,N,D,R,t,n,T,o,Q,rs,ls,hg,hx,h1,h2,h3⟩:=h
 exact do_chain nme hNB (do_all s W hk h2 hgb hg hx h1 hs) hx h3 hgb hk
theorem body_5 {w0:World} {X k r:Nat} {NB:ByteArray} {W:World} (nme:Str) (hNB:(⟨nme.toArray⟩:ByteArray)=NB) (s:Ls) (hs:LsOk w0 s) (hgb:Gb w0) (hk:k<100) (h:Inv w0 X k W) (hr:W.heap[r]? = some (.cells (uX s).toArray 41 (0,0))) :
  ∃ D,W.cell? ⟨X,0,none⟩=some (.pointer (some ⟨D,0,none⟩))/\Calls Tryz.prog 7 #[.pointer (some ⟨D,0,none⟩)] W fun e w1=>∃ D2,e=.returned (.pointer (some ⟨D2,0,none⟩))/\w1.cell? ⟨X,0,none⟩=some (.pointer (some ⟨D,0,none⟩))/\w1.frozen? ⟨X,0,none⟩=false/\Calls Tryz.prog 6 #[.pointer (some ⟨X,0,none⟩)] (w1.setCell ⟨X,0,none⟩ (.pointer (some ⟨D2,0,none⟩))) fun e w2=>e=.returned (.bool true)/\w2.heap[r]? = some (.cells (uX s).toArray 41 (0,0))/\DoC w0 X k NB (uX s).toArray w2:=by
 obtain⟨S,XE,N,D,R,t,n,T,o,Q,rs,ls,hg,hx,h1,h2,h3⟩:=h
 have hx0:=hx
 unfold Wx at hx0
 refine⟨D,by simp[World.cell?,hx0],(reopen hg.pw.fd hg.fl hg.iv.can (by omega) hx0 h2 hgb h3).mono ?_⟩
 rintro e w1 ⟨D2,rfl,hb1,hc1,hf1,c⟩
 refine⟨D2,rfl,hc1,hf1,c.mono ?_⟩
 rintro e w2 ⟨rfl,hal,S2,R2,t2,T2,hp,hA,hS2,hR2,hbx⟩
 have hrX:r ≠ X:=fun e=>by rw[e,hx0] at hr;cases hr
 refine⟨rfl,(hal.blk r (z7 hr) hrX).trans hr,?_⟩
 have hb2:Below w0.heap.size w0 w2:=h2.trans (uQ hal (fun i hi=>by rw[hi];exact h3) hg.sz)
 obtain⟨v1,v2,hd⟩:=hg.dq
 have hg2:Gs w0.heap.size k S2 (fun i=>i=X) 2 D2 R2 t2 (cnF o) T2 o Q rs ls w2:=⟨hp,⟨v1,v2,hd.alX hal hx0⟩,by rw[hA];exact hg.iv,by rw[hA];exact hg.fl,cnF_le hg.fl,by omega,⟨fun i hi=>by have:=hS2 i hi;have:=hg.sz;omega,by have:=hg.sz;omega,hg.lo.2.2⟩,Nat.le_trans hg.sz hal.size⟩
 exact do_chain nme hNB (do_all s w2 hk hb2 hgb hg2 hbx rfl hs) hbx h3 hgb hk
theorem body_3 {w0:World} {X k r:Nat} {NB:ByteArray} {wr W:World} (nme:Str) (hNB:(⟨nme.toArray⟩:ByteArray)=NB) (s:Ls) (hs:LsOk w0 s) (hgb:Gb w0) (hk:k<100) (h:Inv w0 X k wr) (hb:Below wr.heap.size wr W) (hr0:wr.heap.size<=r) (hr:W.heap[r]? = some (.cells (uX s).toArray 41 (0,0))) (h3k:s.k=3) :
  Calls Tryz.prog 8 #[.pointer (some ⟨X,0,none⟩),.int .i64 s.n] W fun e w1=>e=.returned (.tuple #[])/\w1.heap[r]? = some (.cells (uX s).toArray 41 (0,0))/\DoC w0 X k NB (uX s).toArray w1:=by
 obtain⟨S,XE,N,D,R,t,n,T,o,Q,rs,ls,hg0,hx0,h1,h20,h3⟩:=h
 have hg:=hg0.below hb
 have hx:Wx W X D R Q:=(hb.block X (z7 hx0)).trans hx0
 have h2:Below w0.heap.size w0 W:=h20.trans (hb.mono hg0.sz)
 refine(rots_st s.n hs.nb.1 hs.nb.2 (by omega) hg hx).mono ?_
 rintro e w1 ⟨rfl,S',oz,hz,hol,hdq,hx1,hlo,hal⟩
 have hb1:Below w0.heap.size w0 w1:=h2.trans (uQ hal (fun i hi=>hg.lo.1 i hi.1) hg.sz)
 exact⟨rfl,(hal.blk r (z7 hr) (fun hi=>by have:=hg0.pw.lim r (.inl (.inl hi.1));omega)).trans hr,do_chain nme hNB (do3_any s w1 hk hb1 hgb hz hol hdq hg.iv hg.n1 (by have:=hg.n2;omega) ⟨hlo,hg.lo.2.1⟩ hx1 h1 h3k) hx1 h3 hgb hk⟩
theorem Tryz.results3:Tryz.f3.results=#[.tmp 4]:=by kernel_rfl
theorem Wx.c {w:World} {X D R Q:Nat} (h:Wx w X D R Q):w.cell? ⟨X,0,none⟩=some (.pointer (some ⟨D,0,none⟩))/\w.cell? ⟨X,1,none⟩=some (.pointer (some ⟨R,0,none⟩)):=by
 unfold Wx at h
 exact⟨by simp[World.cell?,h],by simp[World.cell?,h]⟩
theorem bd34a (a b:Addr) (w:World):(Instr.build 34 #[(0,.pointer (some a)),(2,.pointer (some b))]).run Tryz.prog w=.ok (.agg #[.pointer (some a),.pointer none,.pointer (some b)]) w:=by kernel_rfl
theorem bd34b (a:Addr) (w:World):(Instr.build 34 #[(0,.pointer (some a))]).run Tryz.prog w=.ok (.agg #[.pointer (some a),.pointer none,.pointer none]) w:=by kernel_rfl
theorem XV {P:Program} {o:Oper} {a:Act} {w w':World} (t:TypeId) (i:Nat) (x:Operand) (ho:o.op=.build t #[(i,x)]) (u1 v:Value) (h1:a.eval x=u1) (hr:(Instr.build t #[(i,u1)]).run P w=.ok v w'):(execOp a.eval o).run P w=.ok (.value v) w':=by
 unfold execOp
 simp[ho,h1,hr,Result.andThen]
theorem own_nil (w:World) (e:TypeId) (k:Nat):w.ownsRow 0 e k (.slice none 0 0) 0 []:=⟨by simp,.inl ⟨rfl,rfl⟩⟩
theorem begin_any (w:World) (hgb:Gb w) :
  Calls Tryz.prog 5 #[.int .i64 1099511627776] w fun e w1=>∃ D,e=.returned (.pointer (some ⟨D,0,none⟩))/\∃ W2,(w1.alloc (.cells #[.slice none 0 0,.slice none 0 0] 31)).alloc (.cells #[.pointer (some ⟨D,0,none⟩),.pointer none,.pointer (some ⟨w1.heap.size,0,none⟩)] 34)=W2/\Calls Tryz.prog 6 #[.pointer (some ⟨w1.heap.size+1,0,none⟩)] W2 fun e w3=>e=.returned (.bool true)/\Inv w (w1.heap.size+1) 0 w3:=by
 refine(newDisk_any w).mono ?_
 rintro e w1 ⟨D,rfl,hD,hk,hb1⟩
 refine⟨D,rfl,_,rfl,?_⟩
 obtain⟨W2,hW2⟩:∃ W2,(w1.alloc (.cells #[.slice none 0 0,.slice none 0 0] 31)).alloc (.cells #[.pointer (some ⟨D,0,none⟩),.pointer none,.pointer (some ⟨w1.heap.size,0,none⟩)] 34)=W2:=⟨_,rfl⟩
 rw[hW2]
 have hb2:Below w1.heap.size w1 W2:=by rw[<-hW2];exact((Below.refl _ w1).alloc (Nat.le_refl _) _).alloc (by simp) _
 have hs2:W2.heap.size=w1.heap.size+2:=by rw[<-hW2];simp
 have hQ2:W2.heap[w1.heap.size]? = some (.cells #[.slice none 0 0,.slice none 0 0] 31 (0,0)):=by rw[<-hW2,heap_alloc_old _ _ (by simp)];exact heap_alloc_new _ _
 have hX2:W2.heap[w1.heap.size+1]? = some (.cells #[.pointer (some ⟨D,0,none⟩),.pointer none,.pointer (some ⟨w1.heap.size,0,none⟩)] 34 (0,0)):=by
  have:=heap_alloc_new (w1.alloc (.cells #[.slice none 0 0,.slice none 0 0] 31)) (.cells #[.pointer (some ⟨D,0,none⟩),.pointer none,.pointer (some ⟨w1.heap.size,0,none⟩)] 34)
  rw[hW2] at this
  simpa using this
 have hfd:FD (fun i=>w.heap.size<=i/\i<w1.heap.size) 0 W2 D ((Option.map fB (none:Option (List (List Sp)))).map nm):=⟨fun _=>none,hk.below hb2,fun _ _=>rfl,rfl⟩
 have hbw:Below w.heap.size w W2:=hb1.trans (hb2.mono hb1.size)
 have hfl:FlO 0 noT none:=rfl
 have hiv:Iv 0 noT [] []:=⟨⟨⟨fun a k h=>(by cases h),fun a _=>rfl,fun e he=>(by cases he)⟩,List.Pairwise.nil,fun x hx=>(by cases hx),fun x hx=>(by cases hx),by simp,by simp⟩,fun hc=>by
  obtain⟨a,ha,_⟩:=hc
  cases ha⟩
 have h12:=open_fl (E:=fun i=>i=w1.heap.size+1) W2 hfd hfl hiv.can (by omega) (by omega) (fun i hi=>by omega) (fun i hi=>by omega) (hgb.below hbw)
 refine(open6_of _ _ 0 D (w1.heap.size+1) _ _ _ _ _ W2 h12 hX2 (fun hh=>by omega) rfl).mono ?_
 rintro e w3 ⟨rfl,R,t,T,hR,hp,hA,hbx,hal⟩
 have hQ3:w3.heap[w1.heap.size]? = some (.cells #[.slice none 0 0,.slice none 0 0] 31 (0,0)):=(hal.blk _ (by omega) (fun hi=>by omega)).trans hQ2
 have hb3:Below w.heap.size w w3:=hbw.trans (uQ hal (fun i hi=>by have:=hb1.size;omega) hbw.size)
 have hs1:=hb1.size
 refine⟨rfl,_,_,0,D,R,t,_,T,none,w1.heap.size,[],[],⟨hp,⟨_,_,hQ3,own_nil _ _ _,own_nil _ _ _,fun x hx=>(by cases hx),fun x hx=>(by cases hx),by simp,by simp⟩,by rw[hA];exact hiv,by rw[hA];exact hfl,Nat.zero_le _,by omega,⟨fun i hi=>hi.1,by omega,hs1⟩,hb3.size⟩,hbx,rfl,hb3,by omega⟩
theorem law_any (a:Option Addr) (c:Nat) (l:List Ls) (nme:Str) (w:World) (hP:Px uX 15 dT0 w a c l) (hs:∀ s ∈ l,Px qz 41 dMv w s.a s.c s.ms/\(∀ m ∈ s.ms,xw m)/\(-9223372036854775808<=s.n/\s.n<=9223372036854775807)) (hgb:Gb w) :
  Calls Tryz.prog 3 #[.slice a l.length c,sV nme] w fun e w'=>e=.returned (.bool true)/\Below w.heap.size w w':=by
 have C4:=small_any a c l w hP
 unfold Post4 at C4
 obtain⟨N,HN⟩:=nm_ l.length
 obtain⟨NB,HNB⟩:=nm_ (⟨nme.toArray⟩:ByteArray)
 obtain⟨nn,HNN⟩:=nm_ nme.length
 have hsz:NB.size=nn:=by rw[<-HNB.out,<-HNN.out];simp[ByteArray.size]
 have HBG:=hid (begin_any w hgb)
 have HGB:=hid hgb
 have HSS:=hid hs
 have HPX:=hid hP
 rw[HN.out] at C4
 rw[HN.out]
 unfold sV
 rw[HNB.out]
 clear hP hs hgb
 go_enter Tryz.func3,Tryz.ntmps3
 go_wp2_with (go_at_call 4;refine C4.mono ?_;rintro e w' ⟨b,rfl,hw,hb⟩;have hw':=hw.symm;subst hw';have HB:=hid hb;clear hw hb C4;refine Hid.out ?_)
 refine hid ?_
 cases b with
 | false =>
  go_wp2
  exact bodyPost_ret (results_tmp Tryz.results3 _ _ _) rfl ⟨rfl,Below.refl _ _⟩
 | true =>
  obtain⟨hN60,hsm⟩:=HB.out.1 rfl
  have HSM:=hid hsm
  clear hsm
  by_cases h1k:nn<=1000
  ·have h1i:¬ (1000:Int)<(nn:Int):=by omega
   go_wp2_with (first
    | (go_at_call 5;refine HBG.out.mono ?_;rintro e w1 ⟨D,rfl,W2,hW2,c6⟩;obtain⟨X,hX⟩:∃ X,w1.heap.size+1=X:=⟨_,rfl⟩;rw[hX] at c6;have HX:=hid hX;have HW2:=hid hW2;have C6:=hid c6;clear hW2 c6 hX HBG)
    | (refine z8 rfl (.agg #[.slice none 0 0,.slice none 0 0]) (yk 31 rfl (build31 _)) ?_;go_frame)
    | (refine z8 rfl (.agg #[.pointer (some ⟨D,0,none⟩),.pointer none,.pointer (some ⟨w1.heap.size,0,none⟩)]) (xJ 34 0 2 (.tmp 26) (.tmp 28) rfl (.pointer (some ⟨D,0,none⟩)) (.pointer (some ⟨w1.heap.size,0,none⟩)) _ rfl rfl (bd34a ⟨D,0,none⟩ ⟨w1.heap.size,0,none⟩ _)) ?_;go_frame)
    | (go_at_call 6;rw[HW2.out,HX.out];refine C6.out.mono ?_;rintro e w3 ⟨rfl,hI⟩;have HI:=hid hI;clear hI C6))
   try rw[HX.out]
   go_loopg [7,8] N (fun q okv iv wr=>∃ i:Nat,okv=.bool true/\iv=.int .i64 i/\q=N-i/\i<=N/\Hid (Inv w X i wr))
   case atStart=>exact⟨0,rfl,rfl,rfl,Nat.zero_le _,HI⟩
   case round =>
    obtain⟨i,rfl,rfl,hq,hin,HIV⟩:=hrel
    by_cases hlt:i<N
    ·have hlti:(i:Int)<(N:Int):=by omega
     have hbr:Below w.heap.size w wr:=by
      obtain⟨_,_,_,_,_,_,_,_,_,_,_,_,_,_,_,h,_⟩:=HIV.out
      exact h
     have p1:=HPX.out.below hbr
     obtain⟨b,off,hae,_,_⟩:=p1.at_ (by rw[HN.out];omega)
     subst hae
     obtain⟨s,hs⟩:∃ s,l.getD i dT0=s:=⟨_,rfl⟩
     have hmem:s ∈ l:=by rw[<-hs];exact zK l i dT0 (by rw[HN.out];exact hlt)
     have hso:LsOk w s:=⟨(HSS.out s hmem).1,(HSS.out s hmem).2.1,HSM.out s hmem,(HSS.out s hmem).2.2⟩
     have HSO:=hid hso
     obtain⟨EL,hEL⟩:∃ EL,uX s=EL:=⟨_,rfl⟩
     have hE15:EL.length=15:=by rw[<-hEL];rfl
     have HIE:Hid ((Tryz.prog.info? 41).map (·.size)=some EL.length):=hid (by rw[hE15];kernel_rfl)
     have HIA:Hid ((Tryz.prog.info? 41).map (·.size)=some EL.toArray.size):=hid (by rw[List.size_toArray,hE15];kernel_rfl)
     have HRG:Hid (wr.rangeAt b (off+i*15) EL):=hid (by
      obtain⟨_,_,e1,_,e3⟩:=p1.at_ (by rw[HN.out];omega)
      cases e1
      rw[<-hEL,<-hs]
      exact e3 i (by rw[HN.out];exact hlt))
     have HONE:Hid (EL.toArray.all (·.oneCell')=true):=hid (by rw[<-hEL];exact all_oneCell_toArray (fun v hv=>by simp[uX] at hv;rcases hv with rfl | rfl | rfl | rfl | rfl | rfl | rfl | rfl | rfl | rfl | rfl | rfl | rfl | rfl | rfl <;> rfl))
     have HZS:Hid ((15:Nat)=EL.toArray.size):=hid (by rw[List.size_toArray,hE15])
     obtain⟨V,HV⟩:=nm_ (wr.alloc (.cells EL.toArray 41))
     obtain⟨r,HK⟩:=nm_ wr.heap.size
     have hbV:Below wr.heap.size wr V:=by rw[<-HV.out];exact(Below.refl _ wr).alloc (Nat.le_refl _) _
     have hkV:V.heap[r]? = some (.cells EL.toArray 41 (0,0)):=by rw[<-HV.out,<-HK.out];exact heap_alloc_new _ _
     have hIV:Inv w X i V:=HIV.out.below hbV
     have HCS:Hid (∀ W:World,W.heap[r]? = some (.cells EL.toArray 41 (0,0))->W.cell? ⟨r,0,none⟩=some (.int .i64 s.k)/\W.cell? ⟨r,2,none⟩=some (.bool s.rot)/\W.cell? ⟨r,10,none⟩=some (.int .i64 s.n)):=fun W hW=>by
      rw[<-hEL] at hW
      exact⟨by rw[cell_of_row _ _ 0 _ _ _ hW];rfl,by rw[cell_of_row _ _ 2 _ _ _ hW];rfl,by rw[cell_of_row _ _ 10 _ _ _ hW];rfl⟩
     have hi100:i<100:=by omega
     obtain⟨hv0,hv2,hv10⟩:=HCS.out V hkV
     have HEL:=hid hEL
     have HKV:=hid hkV
     have HBV:=hid hbV
     have HIVV:=hid hIV
     obtain⟨kd,hkd⟩:∃ k,s.k=k:=⟨_,rfl⟩
     obtain⟨rot,hrot⟩:∃ k,s.rot=k:=⟨_,rfl⟩
     obtain⟨kn,hkn⟩:∃ k,s.n=k:=⟨_,rfl⟩
     rw[hkd] at hv0
     rw[hrot] at hv2
     rw[hkn] at hv10
     have HKD:=hid hkd
     have HROT:=hid hrot
     have HKN:=hid hkn
     clear p1 hs hso hEL hkV hbV hIV hbr hkd hrot hkn hmem
     by_cases h5:kd=5
     ·as_aux_lemma =>
       subst h5
       have hb:=body_5 (r:=r) nme HNB.out s HSO.out HGB.out hi100 HIVV.out (by rw[HEL.out];exact HKV.out)
       rw[HEL.out] at hb
       obtain⟨D,hd0,c7⟩:=hb
       have C7:=hid c7
       clear c7
       go_wp2_with (first
        | (refine wpList_load_mid rfl 41 (.tmp 44) rfl _ _ rfl EL _ HRG.out Tryz.underlying41 rfl HIE.out ?_;go_frame)
        | (refine zq rfl 41 (.tmp 9) (.tmp 45) rfl _ EL.toArray rfl rfl HIA.out HZS.out HONE.out ?_;rw[HV.out,HK.out];go_frame)
        | (go_at_call 7;refine C7.out.mono ?_;rintro e u1 ⟨D2,rfl,z1,z2,c6⟩;have C6:=hid c6;clear c6 C7;refine Hid.out ?_))
       refine hid ?_
       go_wp2_with (go_at_call 6;refine C6.out.mono ?_;rintro e u2 ⟨rfl,hk2,d9⟩;unfold DoC at d9;obtain⟨y0,y2,y10⟩:=HCS.out u2 hk2;rw[HKD.out] at y0;have HK2:=hid hk2;have C9:=hid d9;clear hk2 d9 C6 y2 y10;refine Hid.out ?_)
       refine hid ?_
       go_wp2_with (first
        | (refine zu rfl 41 (.tmp 9) rfl r EL.toArray 41 (0,0) _ rfl HK2.out Tryz.underlying41 rfl HIA.out ?_;go_frame)
        | (go_at_call 9;refine C9.out.mono ?_;rintro e w5 ⟨kk,C,rfl,Q0,z2,z3,D5,R5,W6,z1,hW6,x6,c10⟩;unfold Chk at c10;have HW6:=hid hW6;have C10:=hid c10;clear hW6 x6 c10 C9;refine Hid.out ?_))
       refine hid ?_
       try clear HIV
       try clear HKV
       try clear HBV
       try clear HIVV
       try clear HCS
       try clear HEL
       try clear HRG
       try clear hv0
       try clear hv2
       try clear hv10
       try clear HSO
       try clear HKD
       try clear HROT
       try clear HKN
       try clear HIE
       try clear HIA
       try clear HONE
       try clear HZS
       try clear HPX
       try clear HSS
       try clear HSM
       try clear HB
       try clear HI
       go_wp2_with (first
        | (go_at_call 10;rw[HW6.out];refine C10.out.mono ?_;rintro e u1 ⟨rfl,x1,c11⟩;have hx1:=x1.c.2;have C11:=hid c11;clear x1 c11 C10;refine Hid.out ?_))
       refine hid ?_
       go_wp2_with (first
        | (go_at_call 11;refine C11.out.mono ?_;rintro e u2 ⟨rfl,x2,c7⟩;have hx2:=x2.c.1;have C7b:=hid c7;clear x2 c7 C11 hx1)
        | (go_at_call 7;refine C7b.out.mono ?_;rintro e u3 ⟨D3,rfl,W4,hW4,c6⟩;have HW4:=hid hW4;have C6b:=hid c6;clear hW4 c6 C7b hx2;refine Hid.out ?_))
       refine hid ?_
       go_wp2_with (first
        | (refine z8 rfl (.agg #[.pointer (some ⟨D3,0,none⟩),.pointer none,.pointer none]) (XV 34 0 (.tmp 105) rfl (.pointer (some ⟨D3,0,none⟩)) _ rfl (bd34b ⟨D3,0,none⟩ _)) ?_;go_frame)
        | (go_at_call 6;rw[HW4.out];refine C6b.out.mono ?_;rintro e u5 ⟨rfl,R3,hr3,c10⟩;have C10b:=hid c10;clear c10 C6b;refine Hid.out ?_))
       refine hid ?_
       go_wp2_with (go_at_call 10;refine C10b.out.mono ?_;rintro e u6 ⟨rfl,hI⟩;have HI6:=hid hI;clear hI C10b)
       go_roundg (N-(i+1))
       case measure=>omega
       case rel=>exact⟨i+1,rfl,by go_num,rfl,by omega,HI6⟩
     ·have h5n:(kd == 5)=false:=by simpa using h5
      by_cases h3:kd=3
      ·subst h3
       cases rot with
       | true =>
        as_aux_lemma =>
         have hb:=body_3 (r:=r) nme HNB.out s HSO.out HGB.out hi100 HIV.out HBV.out (by rw[HK.out];exact Nat.le_refl _) (by rw[HEL.out];exact HKV.out) HKD.out
         rw[HEL.out,HKN.out] at hb
         have C8:=hid hb
         clear hb
         go_wp2_with (first
          | (refine wpList_load_mid rfl 41 (.tmp 44) rfl _ _ rfl EL _ HRG.out Tryz.underlying41 rfl HIE.out ?_;go_frame)
          | (refine zq rfl 41 (.tmp 9) (.tmp 45) rfl _ EL.toArray rfl rfl HIA.out HZS.out HONE.out ?_;rw[HV.out,HK.out];go_frame)
          | (go_at_call 8;refine C8.out.mono ?_;rintro e u2 ⟨rfl,hk2,d9⟩;unfold DoC at d9;have HK2:=hid hk2;have C9:=hid d9;clear hk2 d9 C8;refine Hid.out ?_))
         refine hid ?_
         go_wp2_with (first
          | (refine zu rfl 41 (.tmp 9) rfl r EL.toArray 41 (0,0) _ rfl HK2.out Tryz.underlying41 rfl HIA.out ?_;go_frame)
          | (go_at_call 9;refine C9.out.mono ?_;rintro e w5 ⟨kk,C,rfl,Q0,z2,z3,D5,R5,W6,z1,hW6,x6,c10⟩;unfold Chk at c10;have HW6:=hid hW6;have C10:=hid c10;clear hW6 x6 c10 C9;refine Hid.out ?_))
         refine hid ?_
         try clear HIV
         try clear HKV
         try clear HBV
         try clear HIVV
         try clear HCS
         try clear HEL
         try clear HRG
         try clear hv0
         try clear hv2
         try clear hv10
         try clear HSO
         try clear HKD
         try clear HROT
         try clear HKN
         try clear HIE
         try clear HIA
         try clear HONE
         try clear HZS
         try clear HPX
         try clear HSS
         try clear HSM
         try clear HB
         try clear HI
         go_wp2_with (first
          | (go_at_call 10;rw[HW6.out];refine C10.out.mono ?_;rintro e u1 ⟨rfl,x1,c11⟩;have hx1:=x1.c.2;have C11:=hid c11;clear x1 c11 C10;refine Hid.out ?_))
         refine hid ?_
         go_wp2_with (first
          | (go_at_call 11;refine C11.out.mono ?_;rintro e u2 ⟨rfl,x2,c7⟩;have hx2:=x2.c.1;have C7b:=hid c7;clear x2 c7 C11 hx1)
          | (go_at_call 7;refine C7b.out.mono ?_;rintro e u3 ⟨D3,rfl,W4,hW4,c6⟩;have HW4:=hid hW4;have C6b:=hid c6;clear hW4 c6 C7b hx2;refine Hid.out ?_))
         refine hid ?_
         go_wp2_with (first
          | (refine z8 rfl (.agg #[.pointer (some ⟨D3,0,none⟩),.pointer none,.pointer none]) (XV 34 0 (.tmp 105) rfl (.pointer (some ⟨D3,0,none⟩)) _ rfl (bd34b ⟨D3,0,none⟩ _)) ?_;go_frame)
          | (go_at_call 6;rw[HW4.out];refine C6b.out.mono ?_;rintro e u5 ⟨rfl,R3,hr3,c10⟩;have C10b:=hid c10;clear c10 C6b;refine Hid.out ?_))
         refine hid ?_
         go_wp2_with (go_at_call 10;refine C10b.out.mono ?_;rintro e u6 ⟨rfl,hI⟩;have HI6:=hid hI;clear hI C10b)
         go_roundg (N-(i+1))
         case measure=>omega
         case rel=>exact⟨i+1,rfl,by go_num,rfl,by omega,HI6⟩
       | false =>
        as_aux_lemma =>
         have hb:=body_a nme HNB.out s HSO.out HGB.out hi100 HIVV.out
         rw[HEL.out] at hb
         unfold DoC at hb
         have C9:=hid hb
         clear hb
         go_wp2_with (first
          | (refine wpList_load_mid rfl 41 (.tmp 44) rfl _ _ rfl EL _ HRG.out Tryz.underlying41 rfl HIE.out ?_;go_frame)
          | (refine zq rfl 41 (.tmp 9) (.tmp 45) rfl _ EL.toArray rfl rfl HIA.out HZS.out HONE.out ?_;rw[HV.out,HK.out];go_frame)
          | (refine zu rfl 41 (.tmp 9) rfl r EL.toArray 41 (0,0) _ rfl HKV.out Tryz.underlying41 rfl HIA.out ?_;go_frame)
          | (go_at_call 9;refine C9.out.mono ?_;rintro e w5 ⟨kk,C,rfl,Q0,z2,z3,D5,R5,W6,z1,hW6,x6,c10⟩;unfold Chk at c10;have HW6:=hid hW6;have C10:=hid c10;clear hW6 x6 c10 C9;refine Hid.out ?_))
         refine hid ?_
         try clear HIV
         try clear HKV
         try clear HBV
         try clear HIVV
         try clear HCS
         try clear HEL
         try clear HRG
         try clear hv0
         try clear hv2
         try clear hv10
         try clear HSO
         try clear HKD
         try clear HROT
         try clear HKN
         try clear HIE
         try clear HIA
         try clear HONE
         try clear HZS
         try clear HPX
         try clear HSS
         try clear HSM
         try clear HB
         try clear HI
         go_wp2_with (first
          | (go_at_call 10;rw[HW6.out];refine C10.out.mono ?_;rintro e u1 ⟨rfl,x1,c11⟩;have hx1:=x1.c.2;have C11:=hid c11;clear x1 c11 C10;refine Hid.out ?_))
         refine hid ?_
         go_wp2_with (first
          | (go_at_call 11;refine C11.out.mono ?_;rintro e u2 ⟨rfl,x2,c7⟩;have hx2:=x2.c.1;have C7b:=hid c7;clear x2 c7 C11 hx1)
          | (go_at_call 7;refine C7b.out.mono ?_;rintro e u3 ⟨D3,rfl,W4,hW4,c6⟩;have HW4:=hid hW4;have C6b:=hid c6;clear hW4 c6 C7b hx2;refine Hid.out ?_))
         refine hid ?_
         go_wp2_with (first
          | (refine z8 rfl (.agg #[.pointer (some ⟨D3,0,none⟩),.pointer none,.pointer none]) (XV 34 0 (.tmp 105) rfl (.pointer (some ⟨D3,0,none⟩)) _ rfl (bd34b ⟨D3,0,none⟩ _)) ?_;go_frame)
          | (go_at_call 6;rw[HW4.out];refine C6b.out.mono ?_;rintro e u5 ⟨rfl,R3,hr3,c10⟩;have C10b:=hid c10;clear c10 C6b;refine Hid.out ?_))
         refine hid ?_
         go_wp2_with (go_at_call 10;refine C10b.out.mono ?_;rintro e u6 ⟨rfl,hI⟩;have HI6:=hid hI;clear hI C10b)
         go_roundg (N-(i+1))
         case measure=>omega
         case rel=>exact⟨i+1,rfl,by go_num,rfl,by omega,HI6⟩
      ·as_aux_lemma =>
        have h3n:(kd == 3)=false:=by simpa using h3
        have hb:=body_a nme HNB.out s HSO.out HGB.out hi100 HIVV.out
        rw[HEL.out] at hb
        unfold DoC at hb
        have C9:=hid hb
        clear hb h3 h5
        go_wp2_with (first
         | (refine wpList_load_mid rfl 41 (.tmp 44) rfl _ _ rfl EL _ HRG.out Tryz.underlying41 rfl HIE.out ?_;go_frame)
         | (refine zq rfl 41 (.tmp 9) (.tmp 45) rfl _ EL.toArray rfl rfl HIA.out HZS.out HONE.out ?_;rw[HV.out,HK.out];go_frame)
         | (refine zu rfl 41 (.tmp 9) rfl r EL.toArray 41 (0,0) _ rfl HKV.out Tryz.underlying41 rfl HIA.out ?_;go_frame)
         | (go_at_call 9;refine C9.out.mono ?_;rintro e w5 ⟨kk,C,rfl,Q0,z2,z3,D5,R5,W6,z1,hW6,x6,c10⟩;unfold Chk at c10;have HW6:=hid hW6;have C10:=hid c10;clear hW6 x6 c10 C9;refine Hid.out ?_))
        refine hid ?_
        try clear HIV
        try clear HKV
        try clear HBV
        try clear HIVV
        try clear HCS
        try clear HEL
        try clear HRG
        try clear hv0
        try clear hv2
        try clear hv10
        try clear HSO
        try clear HKD
        try clear HROT
        try clear HKN
        try clear HIE
        try clear HIA
        try clear HONE
        try clear HZS
        try clear HPX
        try clear HSS
        try clear HSM
        try clear HB
        try clear HI
        go_wp2_with (first
         | (go_at_call 10;rw[HW6.out];refine C10.out.mono ?_;rintro e u1 ⟨rfl,x1,c11⟩;have hx1:=x1.c.2;have C11:=hid c11;clear x1 c11 C10;refine Hid.out ?_))
        refine hid ?_
        go_wp2_with (first
         | (go_at_call 11;refine C11.out.mono ?_;rintro e u2 ⟨rfl,x2,c7⟩;have hx2:=x2.c.1;have C7b:=hid c7;clear x2 c7 C11 hx1)
         | (go_at_call 7;refine C7b.out.mono ?_;rintro e u3 ⟨D3,rfl,W4,hW4,c6⟩;have HW4:=hid hW4;have C6b:=hid c6;clear hW4 c6 C7b hx2;refine Hid.out ?_))
        refine hid ?_
        go_wp2_with (first
         | (refine z8 rfl (.agg #[.pointer (some ⟨D3,0,none⟩),.pointer none,.pointer none]) (XV 34 0 (.tmp 105) rfl (.pointer (some ⟨D3,0,none⟩)) _ rfl (bd34b ⟨D3,0,none⟩ _)) ?_;go_frame)
         | (go_at_call 6;rw[HW4.out];refine C6b.out.mono ?_;rintro e u5 ⟨rfl,R3,hr3,c10⟩;have C10b:=hid c10;clear c10 C6b;refine Hid.out ?_))
        refine hid ?_
        go_wp2_with (go_at_call 10;refine C10b.out.mono ?_;rintro e u6 ⟨rfl,hI⟩;have HI6:=hid hI;clear hI C10b)
        go_roundg (N-(i+1))
        case measure=>omega
        case rel=>exact⟨i+1,rfl,by go_num,rfl,by omega,HI6⟩
    ·have hlti:¬ (i:Int)<(N:Int):=by omega
     have HBF:Hid (Below w.heap.size w wr):=hid (by
      obtain⟨_,_,_,_,_,_,_,_,_,_,_,_,_,_,_,h,_⟩:=HIV.out
      exact h)
     go_wp2
     exact bodyPost_ret (results_tmp Tryz.results3 _ _ _) rfl ⟨rfl,HBF.out⟩
  ·have h1i:(1000:Int)<(nn:Int):=by omega
   go_wp2
   exact bodyPost_ret (results_tmp Tryz.results3 _ _ _) rfl ⟨rfl,Below.refl _ _⟩
end Go.Proofs.YtgliaiemkfopeaaGreatDoor.K
