import Derived.Test.YtdnphaganajejaaGreatDoorMz27
import Derived.Test.YtdnphaganajejaaGreatDoorMz24
import Derived.Test.YtdnphaganajejaaGreatDoorMz25
set_option linter.unusedSectionVars false
set_option linter.unusedSimpArgs false
set_option linter.unusedVariables false
set_option maxRecDepth 20000
set_option maxHeartbeats 4000000
open List renaming append_nil->Wxw,flatMap_cons->Wzk,flatMap_nil->Wxy,length_append->Wzy,length_cons->Wzu,length_map->Wx7,length_nil->WzQ,map_cons->WzK,mem_append->Wqx,mem_cons->Wqj,mem_map->Wz6,size_toArray->Wyu
open Nat renaming le_refl->Wz8,le_trans->Wz9
namespace Go.Proofs.YtdnphaganajejaaGreatDoor.K
open Go.Proofs.Tryz
open Go.RowKit
structure StC (s:Sp):Prop where
 st:StR s
 ref:s.word=wR->s.id ≠ zZ
 lnk:s.word=wL->s.tg ≠ s.name
theorem Uw {s:Sp} (h:StR s):(s.word=wR/\cnS s=⟨wR,s.name,s.id,[],zL⟩/\lnS s=wR++32 :: (s.name++32 :: yV s.id)) ∨ (s.word=wL/\isN s.tg=true/\cnS s=⟨wL,s.name,zZ,s.tg,zL⟩/\lnS s=wL++32 :: (s.name++32 :: s.tg)) ∨ (s.word=wD/\cnS s=⟨wD,s.name,zZ,[],zL⟩/\lnS s=wD++32 :: s.name) ∨ (s.word=wG/\okG s.e.who s.e.text/\cnS s=⟨wG,s.name,zZ,[],s.e⟩/\lnS s=wG++32 :: (s.name++32 :: ewS s.e)):=by
 rcases h.kind with j | ⟨j,A⟩ | j | ⟨j,A⟩
 ·exact .inl ⟨j,by unfold cnS;rw[j];rfl,by unfold lnS wsS;rw[j];simp[jw,wR,wL,wD,wG]⟩
 ·exact .inr (.inl ⟨j,A,by unfold cnS;rw[j];rfl,by unfold lnS wsS;rw[j];simp[jw,wR,wL,wD,wG]⟩)
 ·exact .inr (.inr (.inl ⟨j,by unfold cnS;rw[j];rfl,by unfold lnS wsS;rw[j];simp[jw,wR,wL,wD,wG]⟩))
 exact .inr (.inr (.inr ⟨j,A,by unfold cnS;rw[j];rfl,by unfold lnS wsS;rw[j];simp[jw,wR,wL,wD,wG,ewS]⟩))
theorem Vw {s:Sp} (h:StR s):vV (cnS s):=by
 have j:=qX h.nm;rcases Uw h with ⟨_,e,_⟩ | ⟨_,A,e,_⟩ | ⟨_,e,_⟩ | ⟨_,_,e,_⟩ <;> rw[e]
 ·exact⟨h.id,yz,j,by simp⟩
 ·exact⟨yz.1,yz,j,h.tg⟩
 ·exact⟨yz.1,yz,j,by simp⟩
 exact⟨yz.1,h.e,j,by simp⟩
theorem cn_ln {s:Sp} (h:StR s):lnS (cnS s)=lnS s:=by
 rcases Uw h with ⟨_,e,j⟩ | ⟨_,_,e,j⟩ | ⟨_,e,j⟩ | ⟨_,_,e,j⟩ <;> rw[e,j] <;> unfold lnS wsS <;> simp[jw,wR,wL,wD,wG,ewS]
theorem qj0 {s:Sp} (h:StR s):StL (cnS s):=by
 refine⟨Vw h,?_⟩;rcases Uw h with ⟨_,e,_⟩ | ⟨_,_,e,_⟩ | ⟨_,e,_⟩ | ⟨_,j,e,_⟩ <;> rw[e]
 ·exact .inl rfl
 ·exact .inr (.inl rfl)
 ·exact .inr (.inr (.inl rfl))
 exact .inr (.inr (.inr ⟨rfl,j.1⟩))
theorem qxu {s:Sp} (h:StR s):sP (cnS s)=sP s:=by
 rcases Uw h with ⟨j,e,_⟩ | ⟨j,_,e,_⟩ | ⟨j,e,_⟩ | ⟨j,A,e,_⟩ <;> rw[e] <;> unfold sP <;> simp only[j] <;> simp[wR,wL,wD,wG]
theorem qqZ {s:Sp} (h:StR s):(cnS s).word=s.word/\(cnS s).name=s.name:=by
 rcases Uw h with ⟨j,e,_⟩ | ⟨j,_,e,_⟩ | ⟨j,e,_⟩ | ⟨j,A,e,_⟩ <;> rw[e,j] <;> exact⟨rfl,rfl⟩
theorem PY {s:Sp} (h:StC s) (w:World) (j:Mx w):Calls prog 143 #[.agg (zJ (cnS s)).toArray] w fun r w'=>r=.returned (.bool true)/\Below w.heap.size w w':=by
 have hs:=Vw h.st;rcases Uw h.st with ⟨A,e,_⟩ | ⟨A,D,e,_⟩ | ⟨A,e,_⟩ | ⟨A,D,e,_⟩ <;> rw[e] at hs ⊢
 ·exact Py _ hs h.st.nm rfl (h.ref A) w j
 ·exact RJ _ hs h.st.nm rfl D (h.lnk A) w j
 ·exact RX _ hs h.st.nm rfl w j
 exact Pu _ hs h.st.nm rfl D w j
theorem zvw {x:Str} (h:isN x=true) (c:UInt8) (hc:c.toNat<33):c ∉ x:=fun j=>by have:=jJ h c j;omega
theorem zvy {p:Per} (j:okP p):(10:UInt8) ∉ xk p:=by
 intro h;have A:=I3 p j 10 (.inr rfl);unfold xk at h;simp only[Wqx,Wqj] at h;rcases h with h | h | h | h | h | h
 ·exact(j.1.2.1 _ h).2.2.1 rfl
 ·simp at h
 ·simp at h
 ·exact(j.2.1.2.1 _ h).2.2.1 rfl
 ·simp at h
 exact A (by simpa using h)
theorem ln_no {s:Sp} (h:StR s):(10:UInt8) ∉ lnS s:=by
 have A:=zvw h.nm 10 (by decide);have hx:∀ x,IdW x->(10:UInt8) ∉ yV x:=fun x hx=>BX x hx 10 (by unfold isH;decide);rcases Uw h with ⟨_,_,e⟩ | ⟨_,j,_,e⟩ | ⟨_,_,e⟩ | ⟨_,j,_,e⟩ <;> rw[e] <;> simp only[Wqx,Wqj,not_or]
 ·exact⟨by decide,by decide,A,by decide,hx _ h.id⟩
 ·exact⟨by decide,by decide,A,by decide,zvw j 10 (by decide)⟩
 ·exact⟨by decide,by decide,A⟩
 refine⟨by decide,by decide,A,by decide,?_⟩;unfold ewS;simp only[Wqx,Wqj,not_or];exact⟨hx _ h.e.1,by decide,hx _ h.e.2,by decide,zvy j.1,by decide,fun D=>(j.2.2 _ D).1 rfl⟩
theorem zvu {s:Sp} (h:StR s):(lnS s).length<=2999:=by
 have G:=qX h.nm;have J:=h.tg;rcases Uw h with ⟨_,_,e⟩ | ⟨_,j,_,e⟩ | ⟨_,_,e⟩ | ⟨_,A,_,e⟩ <;> rw[e]
 ·simp only[Wzy,Wzu,xj,h.id.1];unfold wR;simp;omega
 ·simp only[Wzy,Wzu];unfold wL;simp;omega
 ·simp only[Wzy,Wzu];unfold wD;simp;omega
 have I:(xk s.e.who).length<=300:=by
  obtain⟨D,j,⟨K,L⟩,M,O⟩:=A.1;have:=D.1;have:=j.1;have:=uY s.e.who.time.toNat (by omega);unfold xk;simp[xy,two];omega
 have:=A.2.1;unfold ewS;simp only[Wzy,Wzu,xj,h.e.1.1,h.e.2.1];unfold wG;simp;omega
theorem kW:∀ (ss:List Sp),(∀ s ∈ ss,StR s)->(wrL ss).length<=3000*ss.length
 | [],_=>by simp[wrL]
 | s :: ss,h=>by
  have j:=kW ss (fun x hx=>h x (by simp[hx]));have A:=zvu (h s (by simp));unfold wrL at j ⊢;simp only[Wzk,Wzy,Wzu,WzQ];omega
theorem zvZ (ss:List Sp) (h:∀ s ∈ ss,StR s):wrL (ss.map cnS)=wrL ss:=by
 induction ss with
 | nil=>rfl
 | cons s ss j =>
  have:=j (fun x hx=>h x (by simp[hx]));unfold wrL at this ⊢;simp only[WzK,Wzk,this,cn_ln (h s (by simp))]
end Go.Proofs.YtdnphaganajejaaGreatDoor.K
namespace Go.Proofs.YtdnphaganajejaaGreatDoor.K
open Go.Proofs.Tryz
open Go.RowKit Go.Shelf
attribute [local go_sem] Oper.semAt_some
theorem zvQ (v:Value) (w:World) (j:v.oneCell'=true):Calls prog 140 #[v] w fun e w'=>e=.returned (.func (.func 172) #[] #[.pointer (some ⟨w.heap.size,0,none⟩)])/\w'=w.alloc (.cells #[v] 82):=by
 have h:∀ (fn:Fn) (first cap:Array Value) (w:World),(Instr.makeFunc fn first cap).run prog w=.ok (.func fn first cap) w:=fun _ _ _ _=>rfl;go_enter func140,ntmps140;go_wp2;go_ret;exact⟨rfl,rfl⟩
theorem results110:f110.results=#[.cell 2 126,.cell 3 27]:=by kernel_rfl
theorem zvX (ss:List Sp):fL lnS ss=wrL ss:=rfl
def RsI (w:World) (X Y:Nat) (pre:List (Value × Sp)) (W:World):Prop :=
 ∃ u,Boxed W X 126 u/\W.ownsRow Y 146 68 u pre.length ((pre.map fun x=>cnS x.2).flatMap zJ)/\Mv w W (.slice none 0 0) u
theorem RsI.grow {w:World} {X Y:Nat} (s:List (Value × Sp)) (A C:World) (h:RsI w X Y s A) (j:A.grownBy C none):RsI w X Y s C:=by
 obtain⟨u,D,G,I⟩:=h;exact⟨u,D.kept j (by simp),G.kept j (by cases e:u.ownBlock <;> simp),I.trans (Mv.grow u j)⟩
theorem RsI.turn {w:World} {X Y Bs:Nat} (O:w.heap.size<=Bs) (hB:X ≠ Bs) (M:Bs<Y) (s:List (Value × Sp)) (A C:World) (h:RsI w X Y s A) (D:A.grownBy C (some Bs)):RsI w X Y s C:=by
 obtain⟨u,K,G,j⟩:=h;refine⟨u,K.kept D (fun e=>by cases e;exact hB rfl),G.kept D ?_,⟨D.os.trans j.os,D.tape.trans j.tape,D.output.trans j.output,Wz9 j.size D.size,fun k I L=>(D.block k (Nat.lt_of_lt_of_le I j.size) (fun e=>by cases e;omega)).trans (j.blk k I L),j.at_⟩⟩;cases e:u.ownBlock with
 | none=>exact .inl rfl
 | some k=>exact .inr (fun J=>by cases J;have:=(G.lt _ e).1;omega)
theorem RsI.put {w:World} {X Y n:Nat} (I:X<n) (K:w.heap.size<=n) (s:List (Value × Sp)) (l:Nat) (W:World) (r G:Loop) (J:n<=l) (hr:W.heap[l]? = some (.loop r)) (h:RsI w X Y s W):RsI w X Y s (W.putObj l (.loop G)):=by
 obtain⟨u,j,A,D⟩:=h;exact⟨u,(World.putObj_heap_other (by omega)).trans j,ownsRow_putObj A _ hr rfl,D.put _ (by omega)⟩
theorem Gv {F:Fence} {G:Nat} {P:Program} {j:Array Oper} {rest:List Oper} {o:Oper} {a:Act} {W:World} {Q:Exit->Act->World->Prop} (D:o.guard=none) (ty:TypeId) (x y:Operand) (J:o.op=.store ty x y) (z A:Array Value) (hx:a.eval x=.pointer (some ⟨W.heap.size,0,none⟩)) (hy:a.eval y=.agg A)
  (hi:(P.info? ty).map (·.size)=some A.size) (K:z.size=A.size) (I:A.all (·.oneCell')=true) (h:wpListIn F G P j Q rest (a.put o.dst undef) (W.alloc (.cells A ty))):wpListIn F G P j Q (o :: rest) a (W.alloc (.cells z ty)):=by
 refine XZ D ty x y J W.heap.size A hx hy ty z (heap_alloc_new W _) hi K I ?_;rw[World.setRow_alloc_new];exact h
theorem Vy {F:Fence} {G:Nat} {P:Program} {j:Array Oper} {rest:List Oper} {o:Oper} {a:Act} {w:World} {Q:Exit->Act->World->Prop} (D:o.guard=none) (ty:TypeId) (x:Operand) (J:o.op=.load ty x) (g:Nat) (A:Array Value) (t:TypeId) (f:Nat × Nat) (d:TypeDesc) (hx:a.eval x=.pointer (some ⟨g,0,none⟩)) (I:w.heap[g]? = some (.cells A t f))
  (K:P.underlying ty=some d) (hd:d.isRow=true) (hi:(P.info? ty).map (·.size)=some A.size) (h:wpListIn F G P j Q rest (a.put o.dst (.agg A)) w):wpListIn F G P j Q (o :: rest) a w:=by
 refine Vk D ty x J g 0 hx A.toList d (zw (by simpa using I)) K hd (by simpa using hi) ?_;simpa using h
theorem qj1 {fn:Func} {p q:Tmp} {t1 t2:TypeId} (h:fn.results=#[.cell p t1,.cell q t2]) (tmps:Array Value) (W:World) (D:Nat) (g1 j:Nat) (x y:Value) (K:tmps.getD p undef=.pointer (some ⟨g1,0,none⟩)) (L:tmps.getD q undef=.pointer (some ⟨j,0,none⟩)) (I:W.heap[D]? = some (.deferred (some [])))
  (hx:(loadVar t1 ⟨g1,0,none⟩).run prog (W.putObj D (.deferred none))=.ok x (W.putObj D (.deferred none))) (hy:(loadVar t2 ⟨j,0,none⟩).run prog (W.putObj D (.deferred none))=.ok y (W.putObj D (.deferred none))) (R:Ending->World->Prop) (J:R (.returned (.tuple #[x,y])) (W.putObj D (.deferred none))) :
  bodyPostM Fence.wide 3 prog fn R .ret { tmps:=tmps,defers:=[{ target:=.collected D,args:=#[] }] } W:=by
 have A:tmps[p]?.getD undef=.pointer (some ⟨g1,0,none⟩):=by simpa using K
 have G:tmps[q]?.getD undef=.pointer (some ⟨j,0,none⟩):=by simpa using L
 exact⟨by simp,.inl ⟨_,_,rfl,run_takeDeferred I,_,by simp[results,h,A,G,asAddr,hx,hy],J⟩⟩
theorem ld123 (w:World) (p:Addr) (v:Value) (h:w.cell? p=some v):(loadVar 126 p).run prog w=.ok v w:=by go_simp
theorem ld55 (w:World) (p:Addr) (v:Value) (h:w.cell? p=some v):(loadVar 27 p).run prog w=.ok v w:=by go_simp
theorem z143:(Value.agg (zJ ⟨[],[],zZ,[],zL⟩).toArray).cells.size=68:=by kernel_rfl
theorem RK {F:Fence} {nF:Nat} {α:Type} {enc:α->List Value} {k:Nat} {d:α} {w:World} {D:Array Oper} {rest:List Oper} {o:Oper} {a:Act} {Q:Exit->Act->World->Prop} (K:o.guard=none) (s x:Operand) (t e:TypeId) (hu:prog.underlying t=some (.slice e)) {z:Value} {j:Nat} (L:(prog.info? e).map (fun i=>(i.zero,i.size,i.bytes))=some (some z,k,j)) (hz:z.cells.size=k) (Y:0<k) (J:j<=300)
  (A:∀ x,∀ v ∈ enc x,v.oneCell'=true)
  (ho:o.op=.call { callee:=.builtin .append,args:=#[s,x],argTypes:=#[t,t] }) (B:Nat) (v:Value) (l:List α) (hs:a.eval s=v) (h:w.ownsRow B e k v l.length (l.flatMap enc)) (hB:B<=w.heap.size)
  (b off cx:Nat) (y:α) (hx:a.eval x=.slice (some ⟨b,off,none⟩) 1 cx) (hP:Px enc k d w (some ⟨b,off,none⟩) cx [y]) (Z:(enc y).length=k) (hl:l.length+1<=1000000000)
  (hK:∀ G w',w'.ownsRow B e k G (l.length+1) (l.flatMap enc++enc y)->Mv w w' v G->wpListIn F nF prog D Q rest (a.put o.dst G) w'):wpListIn F nF prog D Q (o :: rest) a w:=by
 obtain⟨i,hi,M,O,V⟩:=qQ L;have hc:=hP.cells Y (fun q hq=>by rw[List.mem_singleton.1 hq];exact Z);simp only[Wzk,Wxy,Wxw] at hc
 refine wpListIn_append_own_at w K s x t ho B e i z k j hu hi M O V hz Y v _ _ hs h ⟨b,off,none⟩ 1 cx (enc y) hx (by rw[Z];simp) hc (A y) (by unfold maxLen;omega) (by have I:=Nat.mul_le_mul hl J;exact Wz9 I (by decide)) hB ?_;intro G w' h1 I h3 h4;exact hK G w' h1 (Mv.app ⟨rfl,rfl,rfl,Wz8 _,fun _ _ _=>rfl⟩ I h4)
def RW (ss:List Sp) (w:World) (e:Ending) (w':World):Prop:=(∃ v,e=.returned (.tuple #[v,.nilIface])/\w'.ownsRow w.heap.size 146 68 v ss.length ((ss.map cnS).flatMap zJ))/\Below w.heap.size w w'
set_option maxRecDepth 100000 in
theorem Gw (a:Option Addr) (c:Nat) (ss:List Sp) (w:World) (hP:PB w a c (wrL ss)) (bh:∀ p:Addr,a=some p->p.block<w.heap.size) (bf:∀ s ∈ ss,StC s) (hl:(wrL ss).length<=290000000) (be:ss.length<=1000000) (ht:Tab w) (b6:Ers w) (b8:Mx w) :
  Calls prog 110 #[.slice a (wrL ss).length c] w (RW ss w):=by
 obtain⟨r,HR⟩:=nm_ w.heap.size;obtain⟨n,hn⟩:∃ n,(wrL ss).length=n:=⟨_,rfl⟩;obtain⟨i143,hq,bw,bz,bA⟩:=qQ kK;have HI:=hid hq;have cu:=hid bw;have cv:=hid bz;have cw:=hid bA;have ac:=hid bf;have au:Hid (∀ W,Below w.heap.size w W->Tab W/\Ers W/\Mx W):=fun W hb=>⟨ht.below hb,b6.below hb,b8.below hb⟩;have HP:=hid hP;have bM:=hid bh;have bI:=hid be
 have HL:=hid hl;have HN:=hid hn;rw[hn];clear hq bw bz bA bf ht b6 b8 hP bh be hl hn;refine(callsIn_wide (n:=3)).1 ?_;refine callsIn_of_wp_marks func110 rfl trivial ?_ rfl
 simp only[ntmps110,Wyu,Wzu,WzQ,Nat.reduceAdd,Nat.reduceSub,Array.replicate_succ,Array.replicate_zero,List.push_toArray,List.append_toArray,List.nil_append,List.cons_append];gi_wp2_with (refine⟨trivial,?_⟩;gi_at_call 140;refine(callsIn_wide.2 (zvQ _ _ rfl)).mono ?_;rintro ev w1 ⟨rfl,rfl⟩)
 obtain⟨J,ad⟩:=nm_ ((((w.alloc (Obj.cells #[Value.slice none 0 0] 126)).alloc (Obj.cells #[Value.nilIface] 27)).alloc (Obj.cells #[Value.slice none 0 0] 126)).alloc (Obj.cells #[Value.slice a n c] 82));rw[ad.out,HR.out];obtain⟨WR,am⟩:=nm_ ((w.alloc (Obj.cells #[Value.slice none 0 0] 126)).alloc (Obj.cells #[Value.nilIface] 27))
 have cf:WR.heap.size=r+1+1:=by rw[<-am.out,<-HR.out];simp
 have bY:Below r w WR:=by rw[<-am.out,<-HR.out];exact((Below.refl _ w).alloc (Wz8 _) _).alloc (by simp) _
 have cb:WR.grownBy J none:=by rw[<-ad.out,am.out];exact(ZZ _ _).trans (ZZ _ _)
 have aM:Hid (∀ W u,Mv WR W (.slice none 0 0) u->Below w.heap.size w W):=fun W u hm=>by
  rw[HR.out];exact bY.trans ((hm.below (fun k hk=>by cases hk) (Wz8 _)).mono (by rw[cf];omega))
 have aR:Hid (WR.heap[r]? = some (.cells #[.slice none 0 0] 126 (0,0))/\WR.heap[r+1]? = some (.cells #[.nilIface] 27 (0,0))):=hid ⟨by
  rw[<-am.out,<-HR.out,heap_alloc_old _ _ (by simp)];exact heap_alloc_new _ _,by
  have:=heap_alloc_new (w.alloc (Obj.cells #[Value.slice none 0 0] 126)) (Obj.cells #[Value.nilIface] 27);rw[am.out] at this;simpa [HR.out] using this⟩
 have bZ:Below r w J:=by rw[<-ad.out,<-HR.out];exact((((Below.refl _ w).alloc (Wz8 _) _).alloc (by simp) _).alloc (by simp;omega) _).alloc (by simp;omega) _
 have hsz:J.heap.size=r+1+1+1+1:=by rw[<-ad.out,<-HR.out];simp
 have bS:Boxed J (r+1+1+1) 82 (.slice a n c):=by
  have:=Boxed.new (((w.alloc (Obj.cells #[Value.slice none 0 0] 126)).alloc (Obj.cells #[Value.nilIface] 27)).alloc (Obj.cells #[Value.slice none 0 0] 126)) 82 (.slice a n c);rw[ad.out] at this;simpa [HR.out] using this
 have bX:Boxed J (r+1+1) 126 (.slice none 0 0):=by
  have h1:=Boxed.new ((w.alloc (Obj.cells #[Value.slice none 0 0] 126)).alloc (Obj.cells #[Value.nilIface] 27)) 126 (.slice none 0 0);have Y:=h1.kept (ZZ _ (Obj.cells #[Value.slice a n c] 82)) (by simp);rw[ad.out] at Y;simpa [HR.out] using Y
 have b9:∀ k,¬ Ob (r+1+1) J k:=fun k ⟨u,h1,Y⟩=>by rw[bX.cell] at h1;cases h1;cases Y
 have bU:Mv WR J (.slice none 0 0) (.slice none 0 0):=Mv.grow _ cb;have bR:RsI WR (r+1+1) J.heap.size [] J:=⟨_,bX,World.ownsRow_nil _ _ _ _,bU⟩;have bT:Ki (r+1+1) (r+1+1+1) a J J:=⟨⟨by omega,by omega,b9 _⟩,fun p hp=>by
  have h1:=bM.out p hp;have Y:=HR.out;exact⟨rfl,⟨by omega,by omega,b9 _⟩,by omega⟩,by omega⟩
 have bV:PB J a c (fL lnS ss):=HP.out.below (by rw[HR.out];exact bZ);have aY:Boxed J (r+1+1+1) 82 (.slice a (fL lnS ss).length c):=by rw[zvX,HN.out];exact bS
 have hr:=HR.out;refine Bw (F:=Fence.wide) (n:=3) rfl (by omega) (gf:=172) (lb:=#[.pointer (some ⟨r+1+1+1,0,none⟩)]) rfl trivial (enters_of func172 (by kernel_rfl) rfl) (Bs:=r+1+1+1) (by omega)
  (zzq 2 (by omega) J (r+1+1) (r+1+1+1) a c lnS ss (fun s hs=>ln_no (ac.out s hs).st) bV (by rw[zvX];have:=HL.out;omega) aY bT)
  (fun _=>rfl) Kx.trans (fun l W r' aL hl _=>Kx.loop (r:=r') (by omega)) (fun l W r' aL x hl hr hf=>?fl)
  (RsI WR (r+1+1) J.heap.size) (fun s A C h hg=>RsI.grow s A C h hg) (fun s A C h hg=>RsI.turn (by omega) (by omega) (by omega) s A C h hg) (fun s l W r' aL hl hr h=>RsI.put (n:=J.heap.size) (by omega) (by omega) s l W r' aL hl hr h) bR
  (fun x W=>{ tmps:=#[.slice a n c,undef,.pointer (some ⟨r,0,none⟩),.pointer (some ⟨r+1,0,none⟩),.pointer (some ⟨r+1+1,0,none⟩),x.1,undef,.slice a n c,.func (.func 172) #[] #[.pointer (some ⟨r+1+1+1,0,none⟩)],x.1,undef,undef,undef,undef,undef,undef,undef,undef,undef,undef,undef,undef,undef,undef,undef,undef,undef,undef,undef],defers:=[] }) (fun x W=>W) ?_ ?_ (fun x W h=>h) ?assign ?body ?done
 case fl =>
  obtain⟨h1,a',Y,h3⟩:=hf;refine⟨h1,a',Y,h3.capl,fun h0=>?_,h3.nil⟩;obtain⟨b,off,e1,e2,e3⟩:=h3.at_ h0;refine⟨b,off,e1,by rw[World.putObj_size];exact e2,fun i hi j v hv=>?_⟩;by_cases aZ:b=l
  ·subst aZ;exfalso;have h5:=e3 0 h0 0 _ rfl;simp[World.cell?,hr] at h5
  rw[World.cell?_of_block (a:=⟨b,off+i*1+j,none⟩) (World.putObj_heap_other aZ)];exact e3 i hi j v hv
 ·intro x W;exact⟨rfl,rfl,rfl,Wz8 _,fun _ _ _=>rfl⟩
 ·intro l x W h1 Y;exact Kx.refl _ _ _
 case assign =>
  intro l x W K _ hK;dsimp only;gi_wp2;exact hK
 case done =>
  rintro D xs W hD hS ⟨u,b1,o1,m1⟩ hK;have HK:=hid hK;have I:Below w.heap.size w W:=aM.out W _ m1;have hm:(xs.map fun x=>cnS x.2)=ss.map cnS:=by rw[<-hS,List.map_map];rfl
  have hlen:xs.length=(ss.map cnS).length:=by rw[Wx7,<-hS,Wx7]
  rw[hm,hlen] at o1;obtain⟨Q,V,cg,aV,cD⟩:=uX (d:=dS) o1 (fun x hx=>by
   obtain⟨s,hs,rfl⟩:=Wz6.1 hx;exact qx (Vw (ac.out s hs).st))
  subst cg;have aI:(ss.map cnS).length=ss.length:=Wx7 ..;have aC:=W9 Q V (ss.map cnS) W (au.out W I).1 aV (fun x hx=>by
   obtain⟨s,hs,rfl⟩:=Wz6.1 hx;exact qj0 (ac.out s hs).st) (by rw[zvZ ss (fun s hs=>(ac.out s hs).st)];exact HL.out) (by rw[aI];have:=bI.out;omega)
  have bN:Hid (∀ W2,Below W.heap.size W W2->PB W2 a c (wrL ss)):=fun W2 Y=>HP.out.below (I.trans (Y.mono I.size));have HC:Hid (∀ e w1,zv5 W (ss.map cnS) e w1->∃ va vc,e=.returned (.slice va n vc)/\Below W.heap.size W w1/\Calls prog 139 #[.slice va n vc,.slice a n c] w1 fun e w'=>e=.returned (.bool true)/\w'=w1):=fun e w1 ⟨v,he,hB⟩=>by
   rw[zvZ ss (fun s hs=>(ac.out s hs).st)] at hB;obtain⟨va,vc,rfl,ce,_⟩:=zvx hB;refine⟨va,vc,by rw[he,HN.out],hB.below,?_⟩;have:=Pz va vc (wrL ss) ce a c (wrL ss) (bN.out w1 hB.below);rw[HN.out,beq_self_eq_true] at this;exact this
  have k0:=b1.cell;have aj:Hid (∀ w1,Below W.heap.size W w1->w1.cell? ⟨r,0,none⟩=some (.slice none 0 0)/\w1.frozen? ⟨r,0,none⟩=false/\w1.cell? ⟨r+1,0,none⟩=some .nilIface/\w1.frozen? ⟨r+1,0,none⟩=false/\w1.cell? ⟨r+1+1,0,none⟩=some (.slice Q (ss.map cnS).length V)):=fun w1 h1=>by
   have bi:W.heap[r]? = some (.cells #[.slice none 0 0] 126 (0,0)):=(m1.blk r (by omega) (fun e=>by cases e)).trans aR.out.1;have bj:W.heap[r+1]? = some (.cells #[.nilIface] 27 (0,0)):=(m1.blk (r+1) (by omega) (fun e=>by cases e)).trans aR.out.2;have q1:=(h1.block r (z7 bi)).trans bi;have q2:=(h1.block (r+1) (z7 bj)).trans bj
   exact⟨by simp[World.cell?,q1],by simp[World.frozen?,q1],by simp[World.cell?,q2],by simp[World.frozen?,q2],(h1.cell (p:=⟨r+1+1,0,none⟩) b1.lt).trans k0⟩
  have ax:Hid (∀ w1,Below W.heap.size W w1->w1.heap[D]? = some (.deferred (some []))/\∀ W3,W3=(w1.setCell ⟨r,0,none⟩ (.slice Q (ss.map cnS).length V)).setCell ⟨r+1,0,none⟩ .nilIface->W3.heap[D]? = some (.deferred (some []))/\(W3.putObj D (.deferred none)).cell? ⟨r,0,none⟩=some (.slice Q (ss.map cnS).length V)/\(W3.putObj D (.deferred none)).cell? ⟨r+1,0,none⟩=some .nilIface/\RW ss w (.returned (.tuple #[.slice Q (ss.map cnS).length V,.nilIface])) (W3.putObj D (.deferred none))):=fun w1 h1=>by
   have bQ:=z7 HK.out;have b2:=(h1.block D bQ).trans HK.out;refine⟨b2,fun W3 O=>?_⟩;obtain⟨f1,f2,f3,f4,f5⟩:=aj.out w1 h1;have aU:W3.heap[D]? = some (.deferred (some [])):=by
    rw[O,Below.heap_setCell _ _ _ D (show D ≠ r+1 by omega),Below.heap_setCell _ _ _ D (show D ≠ r by omega)];exact b2
   have c6:(w1.setCell ⟨r,0,none⟩ (.slice Q (ss.map cnS).length V)).cell? ⟨r,0,none⟩=some (.slice Q (ss.map cnS).length V):=World.cell?_setCell_same w1 _ _ f1;have c8:W3.cell? ⟨r,0,none⟩=some (.slice Q (ss.map cnS).length V):=by
    rw[O,World.cell?_of_block (a:=⟨r,0,none⟩) (Below.heap_setCell _ _ _ r (show r ≠ r+1 by omega))];exact c6
   have ca:W3.cell? ⟨r+1,0,none⟩=some .nilIface:=by
    rw[O];refine World.cell?_setCell_same (u:=.nilIface) _ _ _ ?_;rw[World.cell?_of_block (a:=⟨r+1,0,none⟩) (Below.heap_setCell _ _ _ (r+1) (show r+1 ≠ r by omega))];exact f3
   have bk:W3.heap.size=w1.heap.size:=(by rw[O];simp[World.setCell]);refine⟨aU,?_,?_,⟨_,rfl,?_⟩,?_⟩
   ·rw[World.cell?_of_block (a:=⟨r,0,none⟩) (World.putObj_heap_other (show r ≠ D by omega))];exact c8
   ·rw[World.cell?_of_block (a:=⟨r+1,0,none⟩) (World.putObj_heap_other (show r+1 ≠ D by omega))];exact ca
   ·have ho:=vj o1 h1;rw[aI] at ho ⊢;have cc:W3.ownsRow J.heap.size 146 68 (.slice Q ss.length V) ss.length ((ss.map cnS).flatMap zJ):=by
     rw[O];refine(ho.kept (grownBy_setCell' w1 r _) ?_).kept (grownBy_setCell' _ (r+1) _) ?_
     ·cases e:(Value.slice Q ss.length V).ownBlock with
      | none=>exact .inl rfl
      | some k=>exact .inr (fun e2=>by cases e2;have:=(ho.lt _ e).1;omega)
     cases e:(Value.slice Q ss.length V).ownBlock with
     | none=>exact .inl rfl
     | some k=>exact .inr (fun e2=>by cases e2;have:=(ho.lt _ e).1;omega)
    exact qv (ownsRow_putObj cc _ aU rfl) (by omega)
   have ao:Below r w w1:=(by rw[<-HR.out];exact I.trans (h1.mono I.size));refine⟨by rw[O];exact ao.os,by rw[O];exact ao.tape,by rw[O];exact ao.output,by rw[World.putObj_size,bk];exact ao.size,fun k hk=>?_⟩;rw[HR.out] at hk
   rw[World.putObj_heap_other (show k ≠ D by omega),O,Below.heap_setCell _ _ _ k (show k ≠ r+1 by omega),Below.heap_setCell _ _ _ k (show k ≠ r by omega)];exact ao.block k hk
  obtain⟨M,hM⟩:∃ M,(ss.map cnS).length=M:=⟨_,rfl⟩;rw[hM] at k0 aC aj ax;clear aV o1 m1 hM aI;gi_wp2_with (first
   | (refine⟨trivial,?_⟩;gi_at_call 92;refine(callsIn_wide.2 aC).mono ?_;rintro ev w1 hp;obtain⟨va,vc,he,aG,aA⟩:=HC.out _ _ hp;subst he;obtain⟨f1,f2,f3,f4,f5⟩:=aj.out w1 aG;have bC:=hid (ax.out w1 aG);clear hp aG aC)
   | (refine⟨trivial,?_⟩;gi_at_call 139;refine(callsIn_wide.2 aA).mono ?_;rintro ev w2 ⟨rfl,bq⟩;have br:=bq.symm;subst br;clear bq aA))
  obtain⟨hd,hq⟩:=bC.out;obtain⟨g1,g2,g3,g4⟩:=hq _ rfl;exact qj1 results110 _ _ D r (r+1) _ _ rfl rfl g1 (ld123 _ _ _ g2) (ld55 _ _ _ g3) _ g4
 rintro l pre ⟨xv,s⟩ W0 W cB cj bg ⟨u,b1,o1,m1⟩ ⟨bu,a',hx1,aK⟩ hlen cA cE;simp only at hx1 bu aK;subst hx1;have a7:=ac.out s bu;have I:Below w.heap.size w W:=aM.out W _ m1;have cm:r+1+1+1+1<=l:=by omega
 obtain⟨N,av⟩:=nn_ pre.length;obtain⟨L,cp⟩:=nn_ ((pre.map fun x=>cnS x.2).flatMap zJ);have cz:N<=400000000:=by rw[av.out];omega
 obtain⟨Q,V,bm⟩:=zu o1;rw[<-av.out] at bm;subst bm;rw[show pre.length=(pre.map fun x=>cnS x.2).length by rw[Wx7]] at o1;have aD:Hid ((pre.map fun x=>cnS x.2).length=N):=hid (by rw[Wx7,av.out]);have bF:Hid ((pre.map fun x=>cnS x.2).length+1<=1000000000):=hid (by rw[aD.out];omega)
 have az:Hid (∀ w4:World,W.grownBy w4 none->J.heap.size<=(w4.alloc (.cells (zJ (cnS s)).toArray 146)).heap.size):=fun w4 hg=>by have:=hg.size;simp;omega
 have ay:Hid (∀ W:World,Px zJ 68 dS (W.alloc (.cells (zJ (cnS s)).toArray 146)) (some ⟨W.heap.size,0,none⟩) 1 [cnS s]):=fun W=>by
  have:=x5 (enc:=zJ) (d:=dS) W (cnS s) 146;rw[qx (Vw a7.st)] at this;exact this
 have bD:Hid ((zJ (cnS s)).length=68):=hid (qx (Vw a7.st));have aH:=jq aK;obtain⟨m,hm⟩:∃ m,(lnS s++[10]).length=m:=⟨_,rfl⟩;rw[hm] at aH;have cC:=zvu a7.st;have a6:=zv3 (lnS s) (by omega) W;have Z:=BV s a7.st W (au.out W I).2.1 (au.out W I).2.2;obtain⟨G,ae⟩:∃ G,zJ (cnS s)=G:=⟨_,rfl⟩
 have a8:G.length=68:=by rw[<-ae];exact qx (Vw a7.st)
 have aO:Hid (∀ w2,Below W.heap.size W w2->Mx (w2.alloc (.cells G.toArray 146))):=fun w2 Y=>(au.out _ ((I.trans (Y.mono I.size)).alloc (Wz9 I.size Y.size) _)).2.2;have ag:=fun w2 (Y:Below W.heap.size W w2)=>PY a7 (w2.alloc (.cells G.toArray 146)) (aO.out w2 Y);rw[ae] at Z ag ay az
 have bB:Hid (∀ W:World,(Instr.buildSlice 126 1 #[(0,.agg G.toArray)]).run prog W=.ok (.slice (some ⟨W.heap.size,0,none⟩) 1 1) (W.alloc (.cells G.toArray 146))):=fun W=>by rw[<-ae];exact j4 _ (Vw a7.st) W
 have ak:Hid ((prog.info? 146).map (·.size)=some G.toArray.size):=hid (by rw[Wyu,a8];kernel_rfl);have aQ:Hid (∀ v ∈ G,v.oneCell'=true):=fun v hv=>yk (cnS s) v (by rw[ae];exact hv);have bL:Hid (G.toArray.all (·.oneCell')=true):=hid (all_oneCell_toArray aQ.out);have aS:Hid (68=G.toArray.size):=hid (by rw[Wyu,a8])
 have aB:some (r+1+1) ≠ (Value.slice Q N V).ownBlock:=b1.not_row (by decide) o1;have bE:Hid (∀ w2 w4,Below W.heap.size W w2->Below (w2.alloc (.cells G.toArray 146)).heap.size (w2.alloc (.cells G.toArray 146)) w4->W.grownBy w4 none/\w4.heap[w2.heap.size]? = some (.cells G.toArray 146)):=fun w2 w4 Y h4=>by
  have h3:Below W.heap.size W (w2.alloc (.cells G.toArray 146)):=Y.alloc Y.size _;have h5:Below W.heap.size W w4:=h3.trans (h4.mono h3.size);exact⟨⟨h5.os,h5.tape,h5.output,h5.size,fun k hk _=>h5.block k hk⟩,(h4.block _ (by simp)).trans (heap_alloc_new _ _)⟩
 have bJ:=hid o1;have aN:=hid b1;have bG:=hid m1;have cq:Hid (∀ (W:World) (j:Nat) z,G[j]? = some z->(W.alloc (.cells G.toArray 146)).cell? ((⟨W.heap.size,0,none⟩:Addr).add j)=some z):=fun W j z hj=>zz8 W G 146 j z hj;have ci:=hid a8;have cn:=hid ae;unfold sV at aH a6 Z;obtain⟨S1,bO⟩:=nm_ (⟨(lnS s++[10]).toArray⟩:ByteArray)
 obtain⟨S2,bP⟩:=nm_ (⟨(lnS s).toArray⟩:ByteArray);rw[bO.out] at aH a6;rw[bP.out] at a6 Z;rw[hm];clear o1 b1 m1 bg aK hm ae a8 a7;gi_wp2_with (first
  | (refine⟨trivial,?_⟩;gi_at_call 142;refine(CallsIn.inRound l (callsIn_wide.2 a6)).mono ?_;clear a6;rintro ev w1 ⟨rfl,bo⟩;have bp:=bo.symm;subst bp;clear bo)
  | (refine⟨trivial,?_⟩;gi_at_call 141;refine(CallsIn.inRound l (callsIn_wide.2 Z)).mono ?_;clear Z;rintro ev w2 ⟨rfl,aF⟩;have ah:=ag w2 aF;have B2:=hid aF;clear aF ag)
  | (refine Gv rfl 146 (.tmp 6) (.tmp 13) rfl _ G.toArray rfl rfl ak.out (by rw[<-aS.out];rfl) bL.out ?_)
  | (refine Vy rfl 146 (.tmp 6) rfl w2.heap.size G.toArray 146 (0,0) _ rfl (heap_alloc_new w2 _) underlying146 rfl ak.out ?_)
  | (refine⟨trivial,?_⟩;gi_at_call 143;refine(CallsIn.inRound l (callsIn_wide.2 ah)).mono ?_;clear ah;rintro ev w4 ⟨rfl,aX⟩;obtain⟨g4,k6⟩:=bE.out w2 w4 B2.out aX;have ai:Hid (Boxed w4 (r+1+1) 126 (.slice Q N V)):=hid (aN.out.kept g4 (by simp));have cF:=ai.out.cell;have aP:=hid (bJ.out.kept g4 (by cases e:(Value.slice Q N V).ownBlock <;> simp));have bH:=hid (bG.out.trans (Mv.grow (.slice Q N V) g4));have ar:=hid g4;have K6:=hid k6;clear aX g4 k6)
  | (refine Vy rfl 146 (.tmp 6) rfl w2.heap.size G.toArray 146 (0,0) _ rfl K6.out underlying146 rfl ak.out ?_)
  | (refine X8 rfl 126 1 _ rfl (.agg G.toArray) _ rfl (bB.out _) ?_)
  | (gi_at_builtin;refine Hid.out ?_))
 refine hid ?_;have bK:=hid (aP.out.alloc (.cells G.toArray 146));refine RK (enc:=zJ) (k:=68) (d:=dS) rfl _ _ 126 146 Xy kK z143 (by decide) (by decide) yk rfl J.heap.size (.slice Q N V) (pre.map fun x=>cnS x.2) rfl ?_ ?_ w4.heap.size 0 1 (cnS s) rfl ?_ bD.out bF.out ?_
 ·exact bK.out
 ·exact az.out w4 ar.out
 ·exact ay.out w4
 intro v5 w5 aJ b7;obtain⟨a5,c5,bn⟩:=zu aJ;rw[aD.out] at bn;subst bn;have aw:Hid (Mv w4 w5 (.slice Q N V) (.slice a5 (N+1:Nat) c5)):=hid ((Mv.grow _ (ZZ w4 (.cells G.toArray 146))).trans b7);have aE:=hid aJ;clear aJ b7;have ap:Hid (Boxed w5 (r+1+1) 126 (.slice Q N V)):=(aw.out.blk (r+1+1) ai.out.lt aB).trans ai.out;have cG:=ap.out.cell
 have cy:=ap.out.frozen;simp only[Act.put,sL];gi_wp2;have K1:=(show KeepsFrom J.heap.size W w4 from ⟨ar.out.size,fun k o _ hk hc=>(ar.out.block k (z7 hk) (by simp)).trans hk⟩);have K2:=zxJ ai.out aP.out aw.out J.heap.size;have X1:Kx (r+1+1) l W w4:=Kx.grow aN.out.lt ar.out
 have X2:Kx (r+1+1) l w4 (w5.setCell ⟨r+1+1,0,none⟩ (.slice a5 (N+1:Nat) c5)):=Kx.mv ai.out aw.out aB (fun k hk=>(aE.out.lt k hk).2);have bW:some (r+1+1) ≠ (Value.slice a5 (N+1:Nat) c5).ownBlock:=Boxed.not_row ap.out (by decide) aE.out;refine⟨by rw[<-hsz];exact K1.trans K2,X1.trans X2,_,Boxed.set _ ap.out,?_,(bH.out.trans aw.out).store (by omega) _⟩;have aW:=aE.out
 rw[aD.out,hsz] at aW;rw[Wzy,List.map_append,List.flatMap_append,<-av.out];simp only[List.length_singleton,WzK,List.map_nil,Wzk,Wxy,Wxw];exact aW.kept (grownBy_setCell' w5 (r+1+1) (.slice a5 (N+1:Nat) c5)) (.inr (Ne.symm bW))
end Go.Proofs.YtdnphaganajejaaGreatDoor.K
