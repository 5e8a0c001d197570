import Derived.Test.YtdnphaganajejaaGreatDoorMz14
set_option linter.unusedSimpArgs false
set_option linter.unusedVariables false
set_option maxRecDepth 20000
set_option maxHeartbeats 4000000
open Array renaming toArray_toList->Wx4
open Nat renaming le_refl->Wz8
namespace Go.Proofs.YtdnphaganajejaaGreatDoor.K
open Go.Proofs.Tryz
open Go.RowKit
def rdT (T:Ts) (x:Str):Except Int (List Int):=match wyT T 8 x with
 | none=>.error 64
 | some l=>match T (l.getD (l.length-1) []) with
  | none=>.error 61
  | some r=>.ok r.id
def Ky (o:Except Int (List Int)) (e:Ending):Prop:=match o with
 | .ok id=>e=.returned (.tuple #[.agg (row .u8 id).toArray,.nilIface])
 | .error k=>e=.returned (.tuple #[.agg (row .u8 zZ).toArray,eI k])
theorem results67:f67.results=#[.cell 4 116,.tmp 5]:=by kernel_rfl
theorem results68:f68.results=#[.cell 4 116,.tmp 5]:=by kernel_rfl
structure Ri (x:List Int) (R:Array Value):Prop where
 e:(row .u8 x).toArray=R
 i:(prog.info? 116).map (·.size)=some R.size
 z:(row .u8 zZ).toArray.size=R.size
 o:R.all (·.oneCell')=true
theorem ri (x:List Int) (h:x.length=20):∃ R,Hid (Ri x R):=by
 have hs:(row .u8 x).toArray.size=20:=by simp[zv,h]
 exact⟨_,hid ⟨rfl,by rw[hs];kernel_rfl,by rw[hs];rfl,all_oneCell_toArray (yK _ _)⟩⟩
theorem UV (w:World):(Instr.build 116 #[]).run prog w=.ok (.agg (row .u8 zZ).toArray) w:=by kernel_rfl
theorem uQ (l:List Str) (h:0<l.length):l.getD (l.length-1) [] ∈ l:=zQ l _ [] (by omega)
theorem Y7 {T:Ts} (j:∀ x r,T x=some r->r.tg.length<=60):∀ (n:Nat) (x:Str) (l:List Str),x.length<=60->wyT T n x=some l->0<l.length/\l.length<=n+1/\∀ y ∈ l,y.length<=60
 | n,x,l,hx,h=>by
  by_cases h0:Y6 T x=[]
  ·rw[Fj h0] at h;cases h
   simp[hx]
  cases n with
  | zero=>rw[Fk h0] at h;cases h
  | succ n =>
   rw[qxz h0] at h;obtain⟨G,A,rfl⟩:=Option.map_eq_some_iff.1 h;have hc:(Y6 T x).length<=60:=by
    unfold Y6;cases e:T x with
    | none=>simp
    | some r=>exact j x r e
   obtain⟨k1,I,D⟩:=Y7 j n _ G hc A;refine⟨by simp,by simp;omega,fun y hy=>?_⟩;rcases List.mem_cons.1 hy with rfl | hy
   ·exact hx
   exact D y hy
theorem Nq (S:Nat->Prop) (t n:Nat) (T:Ts) (x:Str) (w:World) (h:Tt S w t n T) (hx:x.length<=60) :
  Calls prog 67 #[.map (some t),sV x] w fun e w'=>Ky (rdT T x) e/\Below w.heap.size w w':=by
 obtain⟨Z,M⟩:=ri zZ rfl;have G:Hid (Z=#[.int .u8 0,.int .u8 0,.int .u8 0,.int .u8 0,.int .u8 0,.int .u8 0,.int .u8 0,.int .u8 0,.int .u8 0,.int .u8 0,.int .u8 0,.int .u8 0,.int .u8 0,.int .u8 0,.int .u8 0,.int .u8 0,.int .u8 0,.int .u8 0,.int .u8 0,.int .u8 0]):=hid M.out.e.symm
 have ac:Hid (Below w.heap.size w (w.alloc (.cells Z 116))):=hid ((Below.refl _ w).alloc (Wz8 _) _);have D:=Fv S t n T x (w.alloc (.cells Z 116)) (h.below ac.out) hx
 have HK:Hid (∀ w1,Below (w.alloc (.cells Z 116)).heap.size (w.alloc (.cells Z 116)) w1->Below w.heap.size w w1/\w1.heap[w.heap.size]? = some (.cells Z 116)):=fun w1 h1=>⟨ac.out.trans (h1.mono (by simp)),(h1.block _ (by simp)).trans (heap_alloc_new _ _)⟩
 have HE:Hid (∀ (w1 w2:World) (A:Array Value),Below w.heap.size w w1->Below w1.heap.size w1 w2->w1.heap[w.heap.size]? = some (.cells Z 116)->w2.heap[w.heap.size]? = some (.cells Z 116)/\(w2.setRow w.heap.size A).heap[w.heap.size]? = some (.cells A 116)/\Below w.heap.size w (w2.setRow w.heap.size A)):=fun w1 w2 A b1 b2 h1=>by
  have h2:=(b2.block _ (z7 h1)).trans h1;exact⟨h2,setRow_heap _ _ _ _ _ _ h2,below_setRow (b1.trans (b2.mono b1.size)) (Wz8 _) _⟩
 have ad:Hid (∀ W:World,(Instr.build 116 #[]).run prog W=.ok (.agg Z) W):=fun W=>by rw[UV,M.out.e]
 have H:=hid h;have a8:=Y7 (T:=T) (fun x r hr=>(H.out.at_ x r hr).tg) 8 x;cases O:wyT T 8 x with
 | none =>
  have HR:Hid (rdT T x=.error 64):=hid (by unfold rdT;rw[O]);have ah:∀ e w',Xq T x (w.alloc (.cells Z 116)).heap.size e w'->e=.returned (.tuple #[.slice none 0 0,eI 64]):=fun e w' K=>by unfold Xq at K;rw[O] at K;exact K
  rw[HR.out];have HP:=hid ah;rw[G.out] at D HK;unfold sV at D ⊢;clear ah h a8 O;go_enter func67,ntmps67;go_wp2_with (first
   | (go_at_call 85;refine D.mono ?_;rintro e w1 ⟨K,I⟩;have he:=HP.out e w1 (by rw[G.out];exact K);subst he;obtain⟨q1,V⟩:=HK.out w1 I;rw[<-G.out] at V;obtain⟨q3,q4,q5⟩:=HE.out w1 w1 Z q1 (Below.refl _ _) V;have Q3:=hid q3;have Q4:=hid q4;have Q5:=hid q5;clear K I q1 V q3 q4 q5)
   | (refine z8 rfl (.agg Z) (yy 116 rfl (ad.out _)) ?_)
   | (refine wpList_store_row rfl 116 (.tmp 4) (.tmp 18) rfl w.heap.size Z rfl rfl 116 _ Q3.out M.out.i rfl M.out.o ?_))
  refine bodyPost_ret (qu results67 _ _ w.heap.size Z.toList _ _ rfl rfl (zw (by simpa using Q4.out)) underlying116 rfl (by simpa using M.out.i)) rfl ⟨?_,Q5.out⟩;unfold Ky;simp only[M.out.e,Wx4];rfl
 | some l =>
  obtain⟨a6,ae,Q⟩:=a8 l hx O;obtain⟨y,hy⟩:∃ y,l.getD (l.length-1) []=y:=⟨_,rfl⟩;have aj:y.length<=60:=by rw[<-hy];exact Q _ (uQ l a6)
  have HP:Hid (∀ e w1,Xq T x (w.alloc (.cells Z 116)).heap.size e w1->∃ va vc,e=.returned (.tuple #[.slice va l.length vc,.nilIface])/\Calls prog 47 #[.slice va l.length vc] w1 fun e w'=>e=.returned (sV y)/\w'=w1):=fun e w1 K=>by
   unfold Xq at K;rw[O] at K;obtain⟨v,rfl,hv⟩:=K;obtain⟨va,vc,rfl⟩:=zu hv;have hB:Bx eT 1 9 w1 w1 0 (.slice va l.length vc) l:=⟨Below.refl _ _,by rw[jV];exact kX hv,Nat.zero_le _⟩;obtain⟨a',c',e,hP,_⟩:=hB.px (d:=[]) (fun _ _=>rfl);cases e
   have:=Kw va vc l w1 hP a6 (by omega);rw[hy] at this;exact⟨va,vc,rfl,this⟩
  have J:=fun W (O:Below w.heap.size w W)=>(H.out.below O).tm.look xX (j7 W) (x:=y) (by omega);obtain⟨ll,a7⟩:∃ n,l.length=n:=⟨_,rfl⟩;cases hT:T y with
  | none =>
   have HR:Hid (rdT T x=.error 61):=hid (by unfold rdT;rw[O];simp only[hy,hT]);obtain⟨A0,Y⟩:=ra r0 rfl;simp only[vT,hT,Option.map_none,Option.getD_none,Option.isSome_none,Y.out.e] at J;rw[HR.out];rw[a7] at HP;rw[G.out] at D HK;unfold sV at D J HP ⊢;clear h a8 O Q ae a6 a7;go_enter func67,ntmps67;go_wp2_with (first
    | (go_at_call 85;refine D.mono ?_;rintro e w1 ⟨K,I⟩;obtain⟨va,vc,he,L⟩:=HP.out e w1 (by rw[G.out];exact K);subst he;obtain⟨q1,V⟩:=HK.out w1 I;rw[<-G.out] at V;obtain⟨q3,q4,q5⟩:=HE.out w1 (w1.alloc (.cells A0 129)) Z q1 ((Below.refl _ _).alloc (Wz8 _) _) V;have ag:=J w1 q1;have Q3:=hid q3;have Q4:=hid q4;have Q5:=hid q5;clear K I q1 V q3 q4 q5 J)
    | (go_at_call 47;refine L.mono ?_;rintro e w' ⟨rfl,rfl⟩)
    | (refine zq rfl 129 (.tmp 8) (.tmp 25) rfl _ A0 rfl rfl Y.out.i Y.out.z Y.out.o ?_)
    | (refine z8 rfl (.agg Z) (yy 116 rfl (ad.out _)) ?_)
    | (refine wpList_store_row rfl 116 (.tmp 4) (.tmp 29) rfl w.heap.size Z rfl rfl 116 _ Q3.out M.out.i rfl M.out.o ?_))
   refine bodyPost_ret (qu results67 _ _ w.heap.size Z.toList _ _ rfl rfl (zw (by simpa using Q4.out)) underlying116 rfl (by simpa using M.out.i)) rfl ⟨?_,Q5.out⟩;unfold Ky;simp only[M.out.e,Wx4];rfl
  | some r =>
   have HR:Hid (rdT T x=.ok r.id):=hid (by unfold rdT;rw[O];simp only[hy,hT]);obtain⟨A,HA⟩:=ra r (H.out.at_ y r hT).id.1;obtain⟨R,HI⟩:=ri r.id (H.out.at_ y r hT).id.1;have ai:Hid (∀ W:World,(W.alloc (.cells A 129)).rangeAt W.heap.size 0 R.toList):=fun W j v hv=>by
    have h1:(W.alloc (.cells A 129)).heap[W.heap.size]? = some (.cells A.toList.toArray 129):=(by rw[Wx4];exact heap_alloc_new W _);have h2:=zw h1 j v (by
     have e:=HA.out.e;unfold rV at e;injection e with e;rw[<-e];rw[<-HI.out.e] at hv;simp only[List.toList_toArray] at hv ⊢;rw[List.getElem?_append_left (List.getElem?_eq_some_iff.1 hv).1];exact hv)
    exact h2
   simp only[vT,hT,Option.map_some,Option.getD_some,Option.isSome_some,HA.out.e] at J;rw[HR.out];rw[a7] at HP;rw[G.out] at D HK;unfold sV at D J HP ⊢;clear h a8 O Q ae a6 a7;go_enter func67,ntmps67;go_wp2_with (first
    | (go_at_call 85;refine D.mono ?_;rintro e w1 ⟨K,I⟩;obtain⟨va,vc,he,L⟩:=HP.out e w1 (by rw[G.out];exact K);subst he;obtain⟨q1,V⟩:=HK.out w1 I;rw[<-G.out] at V;obtain⟨q3,q4,q5⟩:=HE.out w1 (w1.alloc (.cells A 129)) R q1 ((Below.refl _ _).alloc (Wz8 _) _) V;have ag:=J w1 q1;have Q3:=hid q3;have Q4:=hid q4;have Q5:=hid q5;clear K I q1 V q3 q4 q5 J)
    | (go_at_call 47;refine L.mono ?_;rintro e w' ⟨rfl,rfl⟩)
    | (refine zq rfl 129 (.tmp 8) (.tmp 25) rfl _ A rfl rfl HA.out.i HA.out.z HA.out.o ?_)
    | (refine wpList_load_mid rfl 116 (.tmp 31) rfl _ 0 rfl R.toList _ (ai.out _) underlying116 rfl (by simpa using HI.out.i) ?_;simp only[Wx4])
    | (refine wpList_store_row rfl 116 (.tmp 4) (.tmp 32) rfl w.heap.size R rfl rfl 116 _ Q3.out HI.out.i (by rw[<-HI.out.z,<-M.out.e]) HI.out.o ?_))
   refine bodyPost_ret (qu results67 _ _ w.heap.size R.toList _ _ rfl rfl (zw (by simpa using Q4.out)) underlying116 rfl (by simpa using HI.out.i)) rfl ⟨?_,Q5.out⟩;unfold Ky;simp only[HI.out.e,Wx4];rfl
def oI (o:Except Int (List Int)):List Int:=match o with
 | .ok id=>id
 | .error _=>zZ
def oE {α:Type} (o:Except Int α):Value:=match o with
 | .ok _=>.nilIface
 | .error k=>eI k
theorem Fw {o:Except Int (List Int)} {e:Ending} : Ky o e ↔ e=.returned (.tuple #[.agg (row .u8 (oI o)).toArray,oE o]):=by cases o <;> rfl
def rdN (T:Ts) (x:Str):Except Int (List Int):=if isN x then rdT T x else .error 60
theorem qzk {S:Nat->Prop} {w:World} {t n:Nat} {T:Ts} (h:Tt S w t n T) (x:Str):IdW (oI (rdT T x)):=by
 have h0:IdW zZ:=⟨rfl,fun n A=>by rw[List.eq_of_mem_replicate A];exact⟨by decide,by decide⟩⟩;unfold rdT;cases wyT T 8 x with
 | none=>exact h0
 | some l =>
  simp only;cases j:T (l.getD (l.length-1) []) with
  | none=>exact h0
  | some r=>exact(h.at_ _ r j).id
theorem zz2 (S:Nat->Prop) (R D t n:Nat) (go un:Bool) (T:Ts) (x:Str) (w:World) (hR:Rf w R D t go un) (h:Tt S w t n T) (hm:Nm.Mx w) :
  Calls prog 68 #[.pointer (some ⟨R,0,none⟩),sV x] w fun e w'=>Ky (rdN T x) e/\Below w.heap.size w w':=by
 obtain⟨Z,K⟩:=ri zZ rfl;have J:Hid (Z=#[.int .u8 0,.int .u8 0,.int .u8 0,.int .u8 0,.int .u8 0,.int .u8 0,.int .u8 0,.int .u8 0,.int .u8 0,.int .u8 0,.int .u8 0,.int .u8 0,.int .u8 0,.int .u8 0,.int .u8 0,.int .u8 0,.int .u8 0,.int .u8 0,.int .u8 0,.int .u8 0]):=hid K.out.e.symm
 have Q:Hid (Below w.heap.size w (w.alloc (.cells Z 116))):=hid ((Below.refl _ w).alloc (Wz8 _) _);have j:=x6 x (w.alloc (.cells Z 116)) (hm.below Q.out)
 have HK:Hid (∀ w1,Below (w.alloc (.cells Z 116)).heap.size (w.alloc (.cells Z 116)) w1->Below w.heap.size w w1/\w1.heap[w.heap.size]? = some (.cells Z 116)/\w1.cell? ⟨R,1,none⟩=some (.map (some t))):=fun w1 V=>by
  have hb:=Q.out.trans (V.mono (by simp));exact⟨hb,(V.block _ (by simp)).trans (heap_alloc_new _ _),(hb.cell (p:=⟨R,1,none⟩) (z7 hR.box)).trans hR.c.2.1⟩
 have HE:Hid (∀ (w1 w2:World) (A:Array Value),Below w.heap.size w w1->Below w1.heap.size w1 w2->w1.heap[w.heap.size]? = some (.cells Z 116)->w2.heap[w.heap.size]? = some (.cells Z 116)/\(w2.setRow w.heap.size A).heap[w.heap.size]? = some (.cells A 116)/\Below w.heap.size w (w2.setRow w.heap.size A)):=fun w1 w2 A b1 b2 V=>by
  have h2:=(b2.block _ (z7 V)).trans V;exact⟨h2,setRow_heap _ _ _ _ _ _ h2,below_setRow (b1.trans (b2.mono b1.size)) (Wz8 _) _⟩
 have a7:Hid (∀ W:World,(Instr.build 116 #[]).run prog W=.ok (.agg Z) W):=fun W=>by rw[UV,K.out.e]
 cases hi:isN x with
 | false =>
  have HR:Hid (rdN T x=.error 60):=hid (by unfold rdN;rw[hi];rfl);rw[HR.out];rw[hi] at j;rw[J.out] at j HK;unfold sV at j ⊢;clear h hR;go_enter func68,ntmps68;go_wp2_with (first
   | (go_at_call 60;refine j.mono ?_;rintro e w1 ⟨rfl,G⟩;obtain⟨q1,M,-⟩:=HK.out w1 G;rw[<-J.out] at M;obtain⟨q3,q4,q5⟩:=HE.out w1 w1 Z q1 (Below.refl _ _) M;have Q3:=hid q3;have Q4:=hid q4;have Q5:=hid q5;clear G q1 M q3 q4 q5)
   | (refine z8 rfl (.agg Z) (yy 116 rfl (a7.out _)) ?_)
   | (refine wpList_store_row rfl 116 (.tmp 4) (.tmp 9) rfl w.heap.size Z rfl rfl 116 _ Q3.out K.out.i rfl K.out.o ?_))
  refine bodyPost_ret (qu results68 _ _ w.heap.size Z.toList _ _ rfl rfl (zw (by simpa using Q4.out)) underlying116 rfl (by simpa using K.out.i)) rfl ⟨?_,Q5.out⟩;rw[Fw];simp only[oI,oE,K.out.e,Wx4];rfl
 | true =>
  have HR:Hid (rdN T x=rdT T x):=hid (by unfold rdN;rw[hi];rfl);obtain⟨R1,O⟩:=ri _ (qzk h x).1;have I:=fun W (hW:Below w.heap.size w W)=>Nq S t n T x W (h.below hW) (qX hi);simp only[Fw,O.out.e] at I;obtain⟨ev,L⟩:∃ v,oE (rdT T x)=v:=⟨_,rfl⟩;rw[L] at I;rw[HR.out];rw[hi] at j;rw[J.out] at j HK;have a8:=hid L;unfold sV at j I ⊢
  clear h hR L;go_enter func68,ntmps68;go_wp2_with (first
   | (go_at_call 60;refine j.mono ?_;rintro e w1 ⟨rfl,G⟩;obtain⟨q1,M,q6⟩:=HK.out w1 G;rw[<-J.out] at M;have a6:=I w1 q1;have Q1:=hid q1;have Q2:=hid M;clear G q1 M I)
   | (go_at_call 67;refine a6.mono ?_;rintro e w2 ⟨rfl,Y⟩;obtain⟨q3,q4,q5⟩:=HE.out w1 w2 R1 Q1.out Y Q2.out;have Q3:=hid q3;have Q4:=hid q4;have Q5:=hid q5;clear Y q3 q4 q5)
   | (refine wpList_store_row rfl 116 (.tmp 4) (.tmp 17) rfl w.heap.size R1 rfl rfl 116 _ Q3.out O.out.i (by rw[<-O.out.z,<-K.out.e]) O.out.o ?_))
  refine bodyPost_ret (qu results68 _ _ w.heap.size R1.toList _ _ rfl rfl (zw (by simpa using Q4.out)) underlying116 rfl (by simpa using O.out.i)) rfl ⟨?_,Q5.out⟩;rw[Fw];simp only[O.out.e,a8.out,Wx4];rfl
theorem vZ {r:Lr} {A:Array Value} (h:Ra r A) (hr:r.id.length=20) (W:World):(W.alloc (.cells A 129)).cell? ⟨W.heap.size,20,none⟩=some (sV r.tg)/\(W.alloc (.cells A 129)).cell? ⟨W.heap.size,21,none⟩=some (.slice r.a r.log.length r.c):=by
 have j:(row .u8 r.id).length=20:=by rw[zv];exact hr
 have e:=h.e;unfold rV at e;injection e with e;subst e;refine⟨?_,?_⟩
 ·rw[cell_of_row _ _ 20 _ _ _ (heap_alloc_new W _)];simp[List.getElem?_append_right,j]
 rw[cell_of_row _ _ 21 _ _ _ (heap_alloc_new W _)];simp[List.getElem?_append_right,j]
def tgN (T:Ts) (x:Str):Except Int Str:=match gt T x with
 | .error k=>.error k
 | .ok r=>if r.tg=[] then .error 61 else .ok r.tg
def oS (o:Except Int Str):Str:=match o with
 | .ok s=>s
 | .error _=>[]
theorem zx9 {S:Nat->Prop} {w:World} {t n:Nat} {T:Ts} (h:Tt S w t n T) {x:Str} {r:Lr} (j:gt T x=.ok r):Xv S w x r/\T x=some r/\isN x=true:=by
 unfold gt at j;split at j
 ·rename_i hi;split at j
  ·rename_i D A;cases j
   exact⟨h.at_ x r A,A,hi⟩
  cases j
 cases j
theorem results69:f69.results=#[.tmp 4,.tmp 5]:=by kernel_rfl
theorem results71:f71.results=#[.tmp 4,.tmp 5]:=by kernel_rfl
theorem results63:f63.results=#[.tmp 2]:=by kernel_rfl
theorem Bz (S:Nat->Prop) (R D t n:Nat) (go un:Bool) (T:Ts) (x:Str) (w:World) (M:Rf w R D t go un) (h:Tt S w t n T) (V:Nm.Mx w) :
  Calls prog 69 #[.pointer (some ⟨R,0,none⟩),sV x] w fun e w'=>e=.returned (.tuple #[sV (oS (tgN T x)),oE (tgN T x)])/\Below w.heap.size w w':=by
 obtain⟨_,Z,_⟩:=M.c;have K:=Rq S t n T x w h V;unfold SQ at K;have O:Hid (∀ w1 o,Below w.heap.size w w1->Below w.heap.size w (w1.alloc o)):=fun w1 o hb=>hb.alloc hb.size o;cases j:gt T x with
 | error k =>
  have e1:tgN T x=.error k:=by unfold tgN;rw[j]
  obtain⟨A,I⟩:=ra r0 rfl;rw[j] at K;simp only[I.out.e] at K;rw[e1];unfold sV at K ⊢;simp only[oS,oE];clear h M j e1;go_enter func69,ntmps69;go_wp2_with (first
   | (go_at_call 62;refine K.mono ?_;rintro e w1 ⟨rfl,G⟩;have J:=hid (O.out w1 (.cells A 129) G);clear G)
   | (refine zq rfl 129 (.tmp 6) (.tmp 15) rfl _ A rfl rfl I.out.i I.out.z I.out.o ?_))
  exact bodyPost_ret (results_tmp2 results69 _ _ _) rfl ⟨rfl,J.out⟩
 | ok r =>
  obtain⟨hr,-⟩:=zx9 h j;obtain⟨A,I⟩:=ra r hr.id.1;have hc:=fun W=>(vZ I.out hr.id.1 W).1;rw[j] at K;simp only[I.out.e] at K;obtain⟨tg,L⟩:∃ s,r.tg=s:=⟨_,rfl⟩;rw[L] at hc;by_cases h0:tg=[]
  ·have e1:tgN T x=.error 61:=(by unfold tgN;rw[j];simp only[L,h0,if_true]);rw[e1];subst h0;unfold sV at K hc ⊢;simp only[oS,oE];clear h M j e1 L hr;go_enter func69,ntmps69;go_wp2_with (first
    | (go_at_call 62;refine K.mono ?_;rintro e w1 ⟨rfl,G⟩;have J:=hid (O.out w1 (.cells A 129) G);have Q:=hc w1;clear G)
    | (refine zq rfl 129 (.tmp 6) (.tmp 15) rfl _ A rfl rfl I.out.i I.out.z I.out.o ?_))
   exact bodyPost_ret (results_tmp2 results69 _ _ _) rfl ⟨rfl,J.out⟩
  have e1:tgN T x=.ok tg:=by unfold tgN;rw[j];simp only[L,h0,if_false]
  have Y:(tg == [])=false:=by simpa using h0
  rw[e1];unfold sV at K hc ⊢;simp only[oS,oE];clear h M j e1 L hr h0;go_enter func69,ntmps69;go_wp2_with (first
   | (go_at_call 62;refine K.mono ?_;rintro e w1 ⟨rfl,G⟩;have J:=hid (O.out w1 (.cells A 129) G);have Q:=hc w1;clear G)
   | (refine zq rfl 129 (.tmp 6) (.tmp 15) rfl _ A rfl rfl I.out.i I.out.z I.out.o ?_))
  exact bodyPost_ret (results_tmp2 results69 _ _ _) rfl ⟨rfl,J.out⟩
theorem UW:(prog.info? 133).map (fun i=>(i.zero,i.size,i.bytes))=some (some (.agg (qw ⟨zZ,zZ,⟨[],[],0,0⟩,[]⟩).toArray),45,104):=by kernel_rfl
theorem SX:prog.underlying 127=some (.slice 133):=by kernel_rfl
end Go.Proofs.YtdnphaganajejaaGreatDoor.K
