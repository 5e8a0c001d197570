import Derived.Test.YtdnphaganajejaaGreatDoorMz17
set_option linter.unusedSimpArgs false
set_option linter.unusedVariables false
set_option maxRecDepth 20000
set_option maxHeartbeats 4000000
open Array renaming toArray_toList->Wx4
open List renaming flatMap_append->Wzj,length_append->Wzy,length_cons->Wzu,length_map->Wx7,length_nil->WzQ,mem_singleton->Wqk,size_toArray->Wyu,take_of_length_le->Wq0
open Nat renaming le_refl->Wz8,le_trans->Wz9,zero_le->Wqw
namespace Go.Proofs.YtdnphaganajejaaGreatDoor.K
open Go.Proofs.Tryz
open Go.RowKit
def zL:Le:=⟨zZ,zZ,⟨[],[],0,0⟩,[]⟩
theorem kK:(prog.info? 146).map (fun i=>(i.zero,i.size,i.bytes))=some (some (.agg (zJ ⟨[],[],zZ,[],zL⟩).toArray),68,176):=by kernel_rfl
theorem Xy:prog.underlying 126=some (.slice 146):=by kernel_rfl
theorem bdS4 (W N:ByteArray) (id:List Int) (hi:id.length=20) (G:ByteArray) (w:World):(Instr.build 146 #[(0,.string W),(1,.string N),(2,.agg (row .u8 id).toArray),(3,.string G)]).run prog w=.ok (.agg (.string W :: .string N :: (row .u8 id++(.string G :: qw zL))).toArray) w:=by
 obtain⟨a0,a1,a2,a3,a4,a5,Q,V,Y,a9,h,j,A,D,I,J,K,L,M,O,rfl⟩:=yJ id hi;kernel_rfl
theorem bdS3 (W N:ByteArray) (id:List Int) (hi:id.length=20) (w:World):(Instr.build 146 #[(0,.string W),(1,.string N),(2,.agg (row .u8 id).toArray)]).run prog w=.ok (.agg (.string W :: .string N :: (row .u8 id++(sV [] :: qw zL))).toArray) w:=by
 obtain⟨a0,a1,a2,a3,a4,a5,O,Q,V,a9,h,j,A,D,G,I,J,K,L,M,rfl⟩:=yJ id hi;kernel_rfl
theorem bdE3 (W N:ByteArray) (e:Le) (h:vY e) (w:World):(Instr.build 146 #[(0,.string W),(1,.string N),(4,.agg (qw e).toArray)]).run prog w=.ok (.agg (.string W :: .string N :: (row .u8 zZ++(sV [] :: qw e))).toArray) w:=by
 obtain⟨x,y,⟨pn,pm,pt,pz⟩,tx⟩:=e;obtain⟨a0,a1,a2,a3,a4,a5,a6,a7,a8,a9,j,A,D,G,I,J,K,L,M,O,rfl⟩:=yJ x h.1.1;obtain⟨b0,b1,b2,b3,b4,b5,b6,b7,b8,b9,Q,V,Y,Z,ac,ad,ae,ag,ah,ai,rfl⟩:=yJ y h.2.1;unfold qw;simp only;generalize (⟨pn.toArray⟩:ByteArray)=P1;generalize (⟨pm.toArray⟩:ByteArray)=P2;generalize sV tx=P3;kernel_rfl
theorem j4 (s:Sp) (h:vV s) (w:World):(Instr.buildSlice 126 1 #[(0,.agg (zJ s).toArray)]).run prog w=.ok (.slice (some ⟨w.heap.size,0,none⟩) 1 1) (w.alloc (.cells (zJ s).toArray 146)):=by
 obtain⟨i,hq,hz,hs,_⟩:=qQ kK;refine run_buildSlice w 126 146 1 _ (zJ s).toArray i _ Xy hq hz (by rw[hs];decide) (by rw[hs];decide) ?_;rw[hs];obtain⟨wd,nm,id,tg,⟨x,y,⟨pn,pm,pt,pz⟩,tx⟩⟩:=s;have A:=h.id.1;have j:=h.e;simp only at A j;obtain⟨c0,c1,c2,c3,c4,c5,c6,c7,c8,c9,am,ao,ap,ar,au,av,aw,ax,ay,az,rfl⟩:=yJ id A
 obtain⟨a0,a1,a2,a3,a4,a5,a6,a7,a8,a9,D,G,I,J,K,L,M,O,Q,V,rfl⟩:=yJ x j.1.1;obtain⟨b0,b1,b2,b3,b4,b5,b6,b7,b8,b9,Y,Z,ac,ad,ae,ag,ah,ai,aj,ak,rfl⟩:=yJ y j.2.1;unfold zJ qw sV;simp only;generalize (⟨pn.toArray⟩:ByteArray)=P1;generalize (⟨pm.toArray⟩:ByteArray)=P2;generalize (⟨tx.toArray⟩:ByteArray)=P3
 generalize (⟨wd.toArray⟩:ByteArray)=P4;generalize (⟨nm.toArray⟩:ByteArray)=P5;generalize (⟨tg.toArray⟩:ByteArray)=P6;show _=_;kernel_rfl
theorem Zu {P:Program} {o:Oper} {a:Act} {w w':World} (t:TypeId) (i j k:Nat) (x y z:Operand) (K:o.op=.build t #[(i,x),(j,y),(k,z)]) (h A D v:Value) (G:a.eval x=h) (I:a.eval y=A) (J:a.eval z=D) (hr:(Instr.build t #[(i,h),(j,A),(k,D)]).run P w=.ok v w'):(execOp a.eval o).run P w=.ok (.value v) w':=by
 unfold execOp;simp[K,G,I,J,hr,Result.andThen]
theorem KX {P:Program} {o:Oper} {a:Act} {w w':World} (t:TypeId) (i j k l:Nat) (x y z q:Operand) (M:o.op=.build t #[(i,x),(j,y),(k,z),(l,q)]) (h A D G v:Value) (I:a.eval x=h) (J:a.eval y=A) (K:a.eval z=D) (L:a.eval q=G) (hr:(Instr.build t #[(i,h),(j,A),(k,D),(l,G)]).run P w=.ok v w'):(execOp a.eval o).run P w=.ok (.value v) w':=by
 unfold execOp;simp[M,I,J,K,L,hr,Result.andThen]
def fs1 (x:Str) (r:Lr):Sp:=⟨if r.tg=[] then wR else wL,x,r.id,r.tg,zL⟩
def lg1 (x:Str) (e:Le):Sp:=⟨wG,x,zZ,[],e⟩
def st1 (T:Ts) (x:Str):List Sp:=match T x with
 | none=>[]
 | some r=>fs1 x r :: r.log.map (lg1 x)
def stN (T:Ts) (ss:List Str):List Sp:=ss.flatMap (st1 T)
theorem P0 (T:Ts) (ss:List Str) (i:Nat) (h:i<ss.length) (r:Lr) (hr:T (ss.getD i [])=some r):stN T (ss.take (i+1))=stN T (ss.take i)++fs1 (ss.getD i []) r :: r.log.map (lg1 (ss.getD i [])):=by
 unfold stN;rw[qk [] ss i h,Wzj,List.flatMap_singleton];unfold st1;rw[hr]
theorem quz (T:Ts) (ss:List Str) (i:Nat):(stN T (ss.take i)).length<=(stN T ss).length:=by
 conv=>rhs;rw[<-List.take_append_drop i ss]
 unfold stN;rw[Wzj,Wzy];omega
theorem yz:vY zL:=by unfold vY IdW zL;exact⟨⟨rfl,by unfold IsB;decide⟩,⟨rfl,by unfold IsB;decide⟩⟩
theorem results100:f100.results=#[.tmp 2]:=by kernel_rfl
abbrev dS:Sp:=⟨[],[],[],[],dL⟩
def quq (T:Ts) (w:World) (e:Ending) (w':World):Prop := ∃ v ss,e=.returned v/\(∀ x,x ∈ ss ↔ T x ≠ none)/\ss.Pairwise (fun x y=>decide (x<=y)=true)/\ss.Nodup/\Bx zJ 68 146 w w' w.heap.size v (stN T ss)
theorem zxZ {S:Nat->Prop} {w:World} {x:Str} {r:Lr} (h:Xv S w x r):vV (fs1 x r):=⟨h.id,yz,h.nm,h.tg⟩
theorem Xu {x:Str} (hx:x.length<=60) {e:Le} (h:vY e):vV (lg1 x e):=⟨yz.1,h,hx,by simp[lg1]⟩
theorem P7 (T:Ts):∀ ss:List Str,(∀ x ∈ ss,T x ≠ none)->ss.length<=(stN T ss).length
 | [],_=>Wqw _
 | x :: ss,h=>by
  have:=P7 T ss (fun y hy=>h y (by simp[hy]));unfold stN at this ⊢;rw[List.flatMap_cons,Wzy,Wzu];have j:1<=(st1 T x).length:=by
   unfold st1;cases e:T x with
   | none=>exact absurd e (h x (by simp))
   | some r=>simp
  omega
theorem zz7 (S:Nat->Prop) (t n:Nat) (T:Ts) (w:World) (h:Tt S w t n T) (hn:n<=100000) (hsz:∀ ss:List Str,(∀ x,x ∈ ss ↔ T x ≠ none)->ss.Nodup->(stN T ss).length<=100000000) :
  Calls prog 100 #[.map (some t)] w (quq T w):=by
 obtain⟨G,HG⟩:=nm_ w.heap.size;have aL:=Nz S t n T w h hn;have H:=hid h;have aY:=hid hsz;clear h hsz;rw[HG.out] at aL;go_enter func100,ntmps100;go_wp2_with (first
  | (go_at_call 65;refine aL.mono ?_;rintro e w1 ⟨v1,ss,rfl,q1,q2,q3,q4,q5⟩;obtain⟨a,c,rfl⟩:=zu q4;have Q1:=hid q1;have Q2:=hid q2;have Q3:=hid q3;have Q4:=hid q4;have Q5:=hid q5;obtain⟨N,HN⟩:∃ N,Hid (ss.length=N):=⟨_,rfl⟩;rw[HN.out];have bz:Hid (N<=100000000):=hid (by rw[<-HN.out];refine Wz9 ?_ (aY.out ss q1 q3);exact(P7 T ss (fun x hx=>(q1 x).1 hx)));clear q1 q2 q3 q4 q5 aL)
  | fail)
 obtain⟨G1,ak⟩:=nm_ w1.heap.size;have aF:G<=G1:=by have Z:=Q5.out.size;have h2:=ak.out;have h3:=HG.out;omega
 have bD:Hid (∀ W,Below G1 w1 W->Px eT 1 [] W a c ss):=fun W hW=>by
  have hB:Bx eT 1 9 w1 w1 0 (.slice a ss.length c) ss:=⟨Below.refl _ _,by rw[jV];exact kX Q4.out,Wqw _⟩;obtain⟨a',c',e,hP,_⟩:=hB.px (d:=[]) (fun _ _=>rfl);cases e
  exact hP.below (by rw[ak.out];exact hW)
 have bj:Hid (Bx zJ 68 146 w1 w1 G1 (.slice none 0 0) (stN T (ss.take 0))):=hid (by simpa [stN] using uk 146 w1 G1 (by rw[ak.out];exact Wz8 _));have am:Hid (∀ W,Below G1 w1 W->Tt S W t n T):=fun W hW=>(H.out.below (by rw[HG.out];exact Q5.out)).below (by rw[ak.out];exact hW);have bR:N<=100000000:=bz.out
 go_loopg [3,13] N (fun q sv iv wr=>∃ (i:Nat) (v:Value),iv=.int .i64 i/\v=sv/\q=N-i/\i<=N/\Hid (Bx zJ 68 146 w1 wr G1 v (stN T (ss.take i))));case atStart=>exact⟨0,_,rfl,rfl,rfl,Wqw _,bj⟩
 obtain⟨i,v,rfl,hv,hq,bS,HB⟩:=hrel;subst hv;by_cases au:i<N;rotate_left
 ·have b7:¬ (i:Int)<(N:Int):=by omega
  obtain rfl:i=N:=by omega
  have HF:Hid (Bx zJ 68 146 w wr w.heap.size v (stN T ss)):=hid (by
   have Z:=HB.out;rw[Wq0 (by rw[HN.out];exact Wz8 _)] at Z;rw[HG.out];exact⟨Q5.out.trans (Z.below.mono aF),qv Z.own aF,Wz9 aF Z.le⟩)
  go_wp2;exact bodyPost_ret (results_tmp results100 _ _ _) rfl ⟨v,ss,rfl,Q1.out,Q2.out,Q3.out,HF.out⟩
 have b7:(i:Int)<(N:Int):=by omega
 obtain⟨b,off,e1,_,e3⟩:=(bD.out _ HB.out.below).at_ (by rw[HN.out];omega);subst e1;have aG:=e3 i (by rw[HN.out];exact au) 0 _ rfl;obtain⟨x,hx⟩:∃ x,ss.getD i []=x:=⟨_,rfl⟩;rw[hx] at aG;have HX:=hid hx;have aB:x ∈ ss:=by rw[<-hx];exact zQ ss i [] (by rw[HN.out];exact au)
 obtain⟨r,hr⟩:∃ r,T x=some r:=Option.ne_none_iff_exists'.1 ((Q1.out x).1 aB);have HR:=hid hr;have I:=(am.out wr HB.out.below).at_ x r hr;have aJ:=(am.out wr HB.out.below).tm.look1 xX (j7 wr) (x:=x) (by have:=I.nm;omega);obtain⟨A,HA⟩:=ra r I.id.1;obtain⟨R,HI⟩:=ri r.id I.id.1;simp only[vT,hr,Option.map_some,Option.getD_some,HA.out.e] at aJ
 simp only[Nat.mul_one,Nat.add_zero] at aG;have bA:Hid (x.length<=60):=hid I.nm;obtain⟨LL,L⟩:=nm_ r.log.length;obtain⟨la,aV⟩:∃ a,Hid (r.a=a):=⟨_,rfl⟩;obtain⟨lc,b2⟩:∃ a,r.c=a:=⟨_,rfl⟩;have bP:LL<=100000:=by rw[<-L.out];exact I.few
 have aW:Hid ((stN T (ss.take i)).length+1+LL<=100000000):=hid (by
  have Z:=quz T ss (i+1);rw[P0 T ss i (by rw[HN.out];exact au) r (by rw[hx];exact hr)] at Z;have h2:=aY.out ss Q1.out Q3.out;rw[Wzy,Wzu,Wx7,L.out] at Z;omega)
 obtain⟨w2,a7⟩:∃ w2,wr.alloc (.cells A 129)=w2:=⟨_,rfl⟩;have O:w2.heap[wr.heap.size]? = some (.cells A 129):=by rw[<-a7];exact heap_alloc_new _ _
 have b9:w2.heap.size=wr.heap.size+1:=by rw[<-a7];simp
 have ah:w2.cell? ⟨wr.heap.size,20,none⟩=some (sV r.tg):=by rw[<-a7];exact(vZ HA.out I.id.1 wr).1
 have K:w2.cell? ⟨wr.heap.size,21,none⟩=some (.slice la r.log.length lc):=by rw[<-a7,<-aV.out,<-b2];exact(vZ HA.out I.id.1 wr).2
 obtain⟨ll,aK⟩:∃ n,r.log.length=n:=⟨_,rfl⟩;rw[aK] at K;obtain rfl:LL=ll:=by rw[<-aK];exact L.out.symm
 have aX:Hid (w2.rangeAt wr.heap.size 0 R.toList):=fun j v hv=>by
  have Z:w2.heap[wr.heap.size]? = some (.cells A.toList.toArray 129):=by rw[Wx4];exact O
  refine zw Z j v ?_;have e:=HA.out.e;unfold rV at e;injection e with e;rw[<-e];rw[<-HI.out.e] at hv;simp only[List.toList_toArray] at hv ⊢;rw[List.getElem?_append_left (List.getElem?_eq_some_iff.1 hv).1];exact hv
 have aS:Hid ((prog.info? 116).map (·.size)=some R.toList.length):=hid (by simpa using HI.out.i);obtain⟨tg,ax⟩:∃ s,r.tg=s:=⟨_,rfl⟩;have aM:vV ⟨wR,x,r.id,r.tg,zL⟩:=⟨I.id,yz,I.nm,I.tg⟩;obtain⟨B0,M⟩:∃ B,(zJ ⟨wR,x,r.id,r.tg,zL⟩).toArray=B:=⟨_,rfl⟩
 have bn:Hid (∀ W:World,(Instr.build 146 #[(0,.string ⟨#[114,101,102]⟩),(1,.string ⟨x.toArray⟩),(2,.agg R),(3,.string ⟨tg.toArray⟩)]).run prog W=.ok (.agg B0) W):=fun W=>by rw[<-M,<-HI.out.e,<-ax];exact bdS4 _ _ _ I.id.1 _ W
 rw[ax] at ah;clear e3 aB aK b2 hr hx;obtain⟨w3,aN⟩:∃ w3,w2.alloc (.cells B0 146)=w3:=⟨_,rfl⟩;have D:Below w2.heap.size w2 w3:=by rw[<-aN];exact(Below.refl _ _).alloc (Wz8 _) _
 have ai:wr.heap.size<w2.heap.size:=by rw[b9];exact Nat.lt_succ_self _
 have Q:w3.heap[w2.heap.size]? = some (.cells B0 146):=by rw[<-aN];exact heap_alloc_new _ _
 have a6:w3.heap[wr.heap.size]? = some (.cells A 129):=(D.block _ ai).trans O;have be:w3.cell? ⟨wr.heap.size,20,none⟩=some (sV tg):=by rw[cell_of_row _ _ 20 _ _ _ a6,<-cell_of_row _ _ 20 _ _ _ O];exact ah
 have bf:w3.cell? ⟨w2.heap.size,0,none⟩=some (sV wR):=by rw[cell_of_row _ _ 0 _ _ _ Q,<-M];rfl
 have bK:w3.frozen? ⟨w2.heap.size,0,none⟩=false:=by simp[World.frozen?,Q]
 obtain⟨B,hB⟩:∃ B,(zJ (fs1 x r)).toArray=B:=⟨_,rfl⟩;have J:vV (fs1 x r):=zxZ I;have bu:Hid ((prog.info? 146).map (·.size)=some B0.size):=hid (by rw[<-M,Wyu,qx aM];kernel_rfl);have bI:Hid (68=B0.size):=hid (by rw[<-M,Wyu,qx aM])
 have bB:Hid (B0.all (·.oneCell')=true):=hid (by rw[<-M];exact all_oneCell_toArray (yk _));unfold sV at aJ ah aG be bf;have br:=hid hB;have bi:=hid O;have aR:=hid K;have bF:=hid I;clear b9 I aM J K;go_wp2_with (first
  | (at_lookup;refine z8 rfl _ (QV (mv:=.map (some t)) (kv:=.string ⟨x.toArray⟩) rfl rfl rfl aJ) ?_;go_frame)
  | (refine zq rfl 129 (.tmp 6) (.tmp 19) rfl _ A rfl rfl HA.out.i HA.out.z HA.out.o ?_;rw[a7];go_frame)
  | (refine wpList_load_mid rfl 116 (.tmp 21) rfl _ 0 rfl R.toList _ aX.out underlying116 rfl aS.out ?_;simp only[Wx4];go_frame)
  | (refine z8 rfl _ (KX 146 0 1 2 3 (.const (.string ⟨#[114,101,102]⟩)) (.tmp 20) (.tmp 22) (.tmp 24) rfl (.string ⟨#[114,101,102]⟩) (.string ⟨x.toArray⟩) (.agg R) (.string ⟨tg.toArray⟩) (.agg B0) rfl rfl rfl rfl (bn.out _)) ?_;go_frame)
  | (refine zq rfl 146 (.tmp 7) (.tmp 25) rfl _ B0 rfl rfl bu.out (by rw[<-bI.out];rfl) bB.out ?_;rw[aN];go_frame;refine Stp.out ?_))
 refine⟨?_⟩;repeat (first | (refine Qq 7 ?_) | go_skip | go_guarded | go_step | go_upon)
 refine⟨Qz [26,27,28,29] (fun _ W=>Below w2.heap.size w2 W/\W.heap[w2.heap.size]? = some (.cells B 146)/\W.heap[wr.heap.size]? = some (.cells A 129)) ?_ (fun y0 w4 hW=>?_)⟩
 ·by_cases h0:tg=[]
  ·have bJ:B0=B:=(by rw[<-M,<-hB];unfold fs1;rw[if_pos (by rw[ax];exact h0)]);subst bJ;have HF:=hid (show _/\_/\_ from ⟨D,Q,a6⟩);subst h0;clear D ai Q a6 hB;go_wp2_with (fail)
   exact⟨rfl,by kernel_rfl,HF.out⟩
  have HF:Hid (∀ w4,w3.setCell ⟨w2.heap.size,0,none⟩ (.string ⟨#[108,105,110,107]⟩)=w4->Below w2.heap.size w2 w4/\w4.heap[w2.heap.size]? = some (.cells B 146)/\w4.heap[wr.heap.size]? = some (.cells A 129)):=hid fun w4 a8=>by
   have bN:(tg == [])=false:=(by simpa using h0);have bL:fs1 x r=⟨wL,x,r.id,r.tg,zL⟩:=(by unfold fs1;rw[if_neg (by rw[ax];exact h0)]);have ar:w4.heap[w2.heap.size]? = some (.cells B 146):=by
    rw[<-a8,zV Q 0 _,<-M,<-hB,bL];rfl
   have az:∀ k,k<w2.heap.size->w4.heap[k]? = w3.heap[k]? := fun k hk=>by rw[<-a8];exact Below.heap_setCell _ _ _ _ (by show k ≠ w2.heap.size;omega)
   have bO:w4.heap.size=w3.heap.size:=(by rw[<-a8];simp[World.setCell]);have V:Below w2.heap.size w2 w4:=⟨by rw[<-a8];exact D.os,by rw[<-a8];exact D.tape,by rw[<-a8];exact D.output,by rw[bO];exact D.size,fun k hk=>(az k hk).trans (D.block k hk)⟩;have ae:w4.heap[wr.heap.size]? = some (.cells A 129):=(az _ ai).trans a6;exact⟨V,ar,ae⟩
  clear D ai Q a6 hB;have bN:(tg == [])=false:=by simpa using h0
  go_wp2_with (fail)
  exact⟨rfl,by kernel_rfl,HF.out _ rfl⟩
 simp only[Jj,List.foldl_cons,List.foldl_nil,Act.put,List.setIfInBounds_toArray,List.set_cons_zero,List.set_cons_succ];obtain⟨V,ar,ae⟩:=hW;have J:vV (fs1 x r):=zxZ (bF.out);have hB:=br.out;have O:=bi.out;have K:=aR.out
 have bm:Hid (Bx zJ 68 146 w1 (w4.alloc (.cells B 146)) G1 v (stN T (ss.take i))):=hid (((HB.out.alloc (.cells A 129)).carry (by rw[a7];exact V)).alloc _);have bG:=hid ar;have bp:Hid (∀ W:World,(Instr.buildSlice 126 1 #[(0,.agg B)]).run prog W=.ok (.slice (some ⟨W.heap.size,0,none⟩) 1 1) (W.alloc (.cells B 146))):=fun W=>by rw[<-hB];exact j4 _ J W
 have aE:Hid (∀ W:World,Px zJ 68 dS (W.alloc (.cells B 146)) (some ⟨W.heap.size,0,none⟩) 1 [fs1 x r]):=fun W=>by rw[<-hB];have:=x5 (enc:=zJ) (d:=dS) W (fs1 x r) 146;rw[qx J] at this;exact this
 have aD:Hid (∀ y ∈ [fs1 x r],(zJ y).length=68):=hid (fun y hy=>by rw[Wqk.1 hy];exact qx J);have aC:Hid ((stN T (ss.take i)).length + [fs1 x r].length<=1000000000):=hid (by
  have:=aW.out;simp only[Wzu,WzQ];omega)
 have bw:Hid ((prog.info? 146).map (·.size)=some B.size):=hid (by rw[<-hB,Wyu,qx J];kernel_rfl);have HK:Hid (∀ v6 w6,Mv (w4.alloc (.cells B 146)) w6 v v6->w6.cell? ⟨wr.heap.size,21,none⟩=some (.slice la LL lc)):=fun v6 w6 hm=>by
  have Z:(w4.alloc (.cells B 146)).heap[wr.heap.size]? = some (.cells A 129):=(heap_alloc_old _ _ (z7 ae)).trans ae;have h2:=(hm.blk wr.heap.size (z7 Z) (fun e=>by have:=(yu HB.out.own _ e.symm).2;omega)).trans Z;rw[cell_of_row _ _ 21 _ _ _ h2,<-cell_of_row _ _ 21 _ _ _ O];exact K
 clear D ai Q a6 J ar V ae hB M O K bf bK be;go_wp2_with (first
  | (refine zX rfl 146 (.tmp 7) rfl _ B 146 (0,0) _ rfl bG.out underlying146 rfl bw.out ?_;go_frame)
  | (refine z8 rfl _ (qJ 126 (.tmp 31) rfl (.agg B) _ rfl (bp.out _)) ?_;go_frame)
  | (at_builtin;refine zy (enc:=zJ) (k:=68) (d:=dS) rfl _ _ 126 146 Xy kK rfl (by decide) (by decide) yk rfl G1 _ _ rfl bm.out _ 1 [fs1 x r] rfl (aE.out _) aD.out aC.out ?_;intro v6 w6 ag aH av;have bo:=hid ag;have bQ:=HK.out v6 w6 av;clear ag aH av))
 go_loopg [3,37] LL (fun q sv iv wr=>∃ (j:Nat) (u:Value),iv=.int .i64 j/\u=sv/\q=LL-j/\j<=LL/\Hid (Bx zJ 68 146 w1 wr G1 u (stN T (ss.take i)++fs1 x r :: (r.log.take j).map (lg1 x))));case atStart=>exact⟨0,_,rfl,rfl,rfl,Wqw _,hid (by simpa using bo.out)⟩
 case round =>
 obtain⟨j,u,rfl,hu,bU,bT,aj⟩:=hrel;subst hu;by_cases aI:j<LL;rotate_left
 ·have b6:¬ (j:Int)<(LL:Int):=by omega
  obtain rfl:j=LL:=by omega
  have bq:Hid (Bx zJ 68 146 w1 wr G1 u (stN T (ss.take (i+1)))):=hid (by
   have:=aj.out;rw[show r.log.take j=r.log from Wq0 (by rw[L.out];exact Wz8 _)] at this;rw[P0 T ss i (by rw[HN.out];exact au) r (by rw[HX.out];exact HR.out),HX.out];exact this)
  go_wp2;go_roundg (N-(i+1));case measure=>omega
  case rel=>exact⟨i+1,_,by go_num,rfl,rfl,by omega,bq⟩
 have b6:(j:Int)<(LL:Int):=by omega
 have b8:=((am.out wr aj.out.below).at_ x r HR.out).px;have aA:=((am.out wr aj.out.below).at_ x r HR.out).ok;obtain⟨lb,lo,bg,_,bh⟩:=b8.at_ (by rw[L.out];omega);have bM:la=some ⟨lb,lo,none⟩:=aV.out.symm.trans bg;subst bM;have aw:=bh j (by rw[L.out];exact aI);obtain⟨en,ap⟩:∃ e,r.log.getD j dL=e:=⟨_,rfl⟩;rw[ap] at aw
 have Y:vY en:=by rw[<-ap];exact aA _ (zQ r.log j dL (by rw[L.out];exact aI))
 obtain⟨EL,ad⟩:∃ E,qw en=E:=⟨_,rfl⟩;have ac:EL.length=45:=by rw[<-ad];exact yQ Y
 have aU:Hid ((prog.info? 133).map (·.size)=some EL.length):=hid (by rw[ac];kernel_rfl);have ay:Hid ((prog.info? 133).map (·.size)=some EL.toArray.size):=hid (by rw[Wyu];exact aU.out);have aZ:Hid (45=EL.toArray.size):=hid (by rw[Wyu,ac])
 have bC:Hid (EL.toArray.all (·.oneCell')=true):=hid (all_oneCell_toArray (by rw[<-ad];exact uZ en));have J:vV (lg1 x en):=Xu bA.out Y;obtain⟨BE,ao⟩:∃ B,(zJ (lg1 x en)).toArray=B:=⟨_,rfl⟩
 have aO:Hid (∀ W:World,(Instr.build 146 #[(0,.string ⟨#[108,111,103]⟩),(1,.string ⟨x.toArray⟩),(4,.agg EL.toArray)]).run prog W=.ok (.agg BE) W):=fun W=>by rw[<-ao,<-ad];exact bdE3 _ _ en Y W
 have aQ:Hid (∀ W:World,(Instr.buildSlice 126 1 #[(0,.agg BE)]).run prog W=.ok (.slice (some ⟨W.heap.size,0,none⟩) 1 1) (W.alloc (.cells BE 146))):=fun W=>by rw[<-ao];exact j4 _ J W
 have aE:Hid (∀ W:World,Px zJ 68 dS (W.alloc (.cells BE 146)) (some ⟨W.heap.size,0,none⟩) 1 [lg1 x en]):=fun W=>by rw[<-ao];have:=x5 (enc:=zJ) (d:=dS) W (lg1 x en) 146;rw[qx J] at this;exact this
 have aD:Hid (∀ y ∈ [lg1 x en],(zJ y).length=68):=hid (fun y hy=>by rw[Wqk.1 hy];exact qx J);have aP:Hid (Bx zJ 68 146 w1 ((wr.alloc (.cells EL.toArray 133)).alloc (.cells BE 146)) G1 u (stN T (ss.take i)++fs1 x r :: (r.log.take j).map (lg1 x))):=hid ((aj.out.alloc _).alloc _)
 have bH:Hid (stN T (ss.take i)++fs1 x r :: (r.log.take (j+1)).map (lg1 x)=(stN T (ss.take i)++fs1 x r :: (r.log.take j).map (lg1 x))++[lg1 x en]):=hid (by rw[qk dL r.log j (by rw[L.out];exact aI),ap];simp);have aC:Hid ((stN T (ss.take i)++fs1 x r :: (r.log.take j).map (lg1 x)).length + [lg1 x en].length<=1000000000):=hid (by
  have:=aW.out;simp only[Wzy,Wzu,Wx7,List.length_take,WzQ];omega)
 rw[ad] at aw;have bE:=hid aw;clear b8 aA bh bg aw ap Y ad ac J ao;go_wp2_with (first
  | (refine wpList_load_mid rfl 133 (.tmp 39) rfl _ _ rfl EL _ bE.out underlying133 rfl aU.out ?_;go_frame)
  | (refine zq rfl 133 (.tmp 9) (.tmp 40) rfl _ EL.toArray rfl rfl ay.out (by rw[<-aZ.out];rfl) bC.out ?_;go_frame)
  | (refine zX rfl 133 (.tmp 9) rfl _ EL.toArray 133 (0,0) _ rfl (heap_alloc_new _ _) underlying133 rfl ay.out ?_;go_frame)
  | (refine z8 rfl _ (Zu 146 0 1 4 (.const (.string ⟨#[108,111,103]⟩)) (.tmp 42) (.tmp 43) rfl (.string ⟨#[108,111,103]⟩) (.string ⟨x.toArray⟩) (.agg EL.toArray) (.agg BE) rfl rfl rfl (aO.out _)) ?_;go_frame)
  | (refine z8 rfl _ (qJ 126 (.tmp 44) rfl (.agg BE) _ rfl (aQ.out _)) ?_;go_frame)
  | (at_builtin;refine zy (enc:=zJ) (k:=68) (d:=dS) rfl _ _ 126 146 Xy kK rfl (by decide) (by decide) yk rfl G1 _ _ rfl aP.out _ 1 [lg1 x en] rfl (aE.out _) aD.out aC.out ?_;intro v6 w6 ag aH av;have bk:=hid ag;clear ag aH av))
 go_roundg (LL-(j+1));case measure=>omega
 case rel=>exact⟨j+1,_,by go_num,rfl,rfl,by omega,hid (by rw[bH.out];exact bk.out)⟩
end Go.Proofs.YtdnphaganajejaaGreatDoor.K
