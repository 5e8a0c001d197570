import Derived.Test.YtdnphaganajejaaGreatDoorMz21
import Derived.Test.YtdnphaganajejaaGreatDoorMz20
set_option linter.unusedSimpArgs false
set_option linter.unusedVariables false
set_option maxRecDepth 20000
set_option maxHeartbeats 4000000
open ByteArray renaming size->Wqz
open List renaming flatMap_append->Wzj,length_append->Wzy,length_cons->Wzu,length_nil->WzQ,map_cons->WzK,map_nil->WzV,size_toArray->Wyu
open Nat renaming le_refl->Wz8,lt_irrefl->Wxz,lt_of_lt_of_le->Wq2
namespace Go.Proofs.YtdnphaganajejaaGreatDoor.K
open Go.Proofs.Tryz
open Go.RowKit
theorem results92:f92.results=#[.tmp 2]:=by kernel_rfl
def wsS (s:Sp):List Str:=if s.word=wR then [wR,s.name,yV s.id] else if s.word=wL then [wL,s.name,s.tg] else if s.word=wD then [wD,s.name] else [wG,s.name,yV s.e.old,yV s.e.new,xk s.e.who++9 :: s.e.text]
def lnS (s:Sp):Str:=jw (wsS s)
def wrL (ss:List Sp):Str:=ss.flatMap fun s=>lnS s++[10]
theorem Pj (ss:List Sp) (i:Nat) (h:i<ss.length) (d:Sp):wrL (ss.take (i+1))=wrL (ss.take i)++lnS (ss.getD i d)++[10]:=by
 unfold wrL;rw[qk d ss i h,Wzj,List.flatMap_singleton,List.append_assoc]
theorem quQ (ss:List Sp) (i:Nat):(wrL (ss.take i)).length<=(wrL ss).length:=by
 conv=>rhs;rw[<-List.take_append_drop i ss]
 unfold wrL;rw[Wzj,Wzy];omega
def StL (s:Sp):Prop:=vV s/\(s.word=wR ∨ s.word=wL ∨ s.word=wD ∨ (s.word=wG/\okP s.e.who))
theorem zY {P:Program} {o:Oper} {a:Act} {w:World} (ty:TypeId) (x:Operand) (h:o.op=.load ty x) (b f:Nat) (hx:a.eval x=.pointer (some ⟨b,f,none⟩)) (cs:List Value) (d:TypeDesc) (hc:w.rangeAt b f cs) (j:P.underlying ty=some d) (hd:d.isRow=true) (hi:(P.info? ty).map (·.size)=some cs.length):(execOp a.eval o).run P w=.ok (.value (.agg cs.toArray)) w:=by
 unfold execOp;simp only[h,hx,Instr.loadAt,Instr.sureAddr,Sem.run_bind,Sem.run_pure,Result.andThen_ok,run_loadVar_mid w b f ty cs d hc j hd hi]
theorem zv4 (w:World) (ws:List Str):Px eT 1 [] (w.alloc (.cells (ws.map sV).toArray 9)) (some ⟨w.heap.size,0,none⟩) ws.length ws :=
 ⟨Wz8 _,fun _=>⟨w.heap.size,0,rfl,by simp,fun i hi j v hv=>by
  have A:j=0:=by
   have:=(List.getElem?_eq_some_iff.1 hv).1
   simp only[eT,Wzu,WzQ] at this
   omega
  subst A
  simp only[eT,List.getElem?_cons_zero,Option.some.injEq] at hv
  subst hv
  rw[cell_of_row _ _ _ _ _ _ (heap_alloc_new w _)]
  simp[List.getD_eq_getElem?_getD,List.getElem?_eq_getElem hi]⟩,fun h=>by cases h⟩
theorem Vv (w0 w:World) (B:Nat) (v:Value) (out:Str) (ws:List Str) (n:Nat) (D:ws.length=n) (h:Bb w0 w B v out) (A:out.length+(jw ws).length+1<=300000000) (hs:ws.length<=10) (W:World) (j:w.alloc (.cells (ws.map sV).toArray 9)=W) :
  Calls prog 118 #[v,.slice (some ⟨w.heap.size,0,none⟩) n n] W (FK w0 W B v (out++jw ws++[10])):=by
 subst j;subst D;exact zxQ w0 _ B v out _ _ ws (h.alloc _) (zv4 w ws) (fun p G e=>by
  cases G
  have:=(yu h.own _ e.symm).2;exact Wxz _ this) A hs
structure Qs (K:Nat) (wd nm tg:ByteArray) (R E:List Value) (W:World):Prop where
 c0:W.cell? ⟨K,0,none⟩=some (.string wd)
 c1:W.cell? ⟨K,1,none⟩=some (.string nm)
 c22:W.cell? ⟨K,22,none⟩=some (.string tg)
 r2:W.rangeAt K 2 R
 r23:W.rangeAt K 23 E
theorem Pk {s:Sp} {B:Array Value} {K:Nat} (h:Sa s B K) {W:World} (j:W.heap[K]? = some (.cells B 146)):Qs K ⟨s.word.toArray⟩ ⟨s.name.toArray⟩ ⟨s.tg.toArray⟩ (row .u8 s.id) (qw s.e) W:=⟨h.c0 W j,h.c1 W j,h.c22 W j,h.r2 W j,h.r23 W j⟩
structure Qe (K J:Nat) (wd nm tx:ByteArray) (X Y P:List Value) (W:World):Prop where
 c0:W.cell? ⟨K,0,none⟩=some (.string wd)
 c1:W.cell? ⟨K,1,none⟩=some (.string nm)
 r0:W.rangeAt J 0 X
 r20:W.rangeAt J 20 Y
 r40:W.rangeAt J 40 P
 c44:W.cell? ⟨J,44,none⟩=some (.string tx)
theorem qe_of {s:Sp} {B:Array Value} {K J:Nat} (hs:vV s) (h:Sa s B K) {W:World} (I:W.heap[K]? = some (.cells B 146)) (A:W.heap[J]? = some (.cells (qw s.e).toArray 133)):Qe K J ⟨s.word.toArray⟩ ⟨s.name.toArray⟩ ⟨s.e.text.toArray⟩ (row .u8 s.e.old) (row .u8 s.e.new) (x8 s.e.who).toList W:=by
 have D:(row .u8 s.e.old).length=20:=by rw[zv];exact hs.e.1.1
 have G:(row .u8 s.e.new).length=20:=by rw[zv];exact hs.e.2.1
 refine⟨h.c0 W I,h.c1 W I,fun j v hv=>?_,fun j v hv=>?_,fun j v hv=>?_,?_⟩
 ·refine zw A j v ?_;unfold qw;rw[List.getElem?_append_left (List.getElem?_eq_some_iff.1 hv).1];exact hv
 ·rw[show (20+j)=0+(20+j) by omega];refine zw A (20+j) v ?_;unfold qw;rw[List.getElem?_append_right (by omega),D,show 20+j-20=j by omega,List.getElem?_append_left (List.getElem?_eq_some_iff.1 hv).1];exact hv
 ·rw[show (40+j)=0+(40+j) by omega];refine zw A (40+j) v ?_;unfold qw;rw[List.getElem?_append_right (by omega),D,List.getElem?_append_right (by omega),G,show 40+j-20-20=j by omega];have L:j<4:=(List.getElem?_eq_some_iff.1 hv).1;rcases j with _ | _ | _ | _ | j
  ·exact hv
  ·exact hv
  ·exact hv
  ·exact hv
  omega
 rw[cell_of_row _ _ 44 _ _ _ A];unfold qw;simp only[List.getElem?_toArray];rw[List.getElem?_append_right (by omega),D,List.getElem?_append_right (by omega),G];rfl
def zv5 (w:World) (ss:List Sp) (e:Ending) (w':World):Prop := ∃ v,e=.returned v/\Bb w w' w.heap.size v (wrL ss)
theorem W8 (x:List Int) (h:IdW x) (w:World):Calls prog 115 #[.agg (row .u8 x).toArray] w fun e w'=>e=.returned (.string ⟨(yV x).toArray⟩)/\Below w.heap.size w w':=Hx.hex_prog x w h.1 h.2
theorem W9 (a:Option Addr) (c:Nat) (ss:List Sp) (w:World) (ht:Tab w) (hP:Px zJ 68 dS w a c ss) (bq:∀ s ∈ ss,StL s) (hl:(wrL ss).length<=290000000) (hn:ss.length<=100000000) :
  Calls prog 92 #[.slice a ss.length c] w (zv5 w ss):=by
 obtain⟨G,HG⟩:=nm_ w.heap.size;obtain⟨N,HN⟩:=nm_ ss.length;have br:Hid (Bb w w G (.slice none 0 0) (wrL (ss.take 0))):=hid (by have h0:Bb w w G (.slice none 0 0) []:=uk 5 w G (by rw[HG.out];exact Wz8 _);simpa [wrL] using h0);have bC:Hid (∀ W,Below G w W->Px zJ 68 dS W a c ss):=fun W hW=>hP.below (by rw[HG.out];exact hW)
 have bD:Hid (∀ W,Below G w W->Tab W):=fun W hW=>ht.below (by rw[HG.out];exact hW);have bz:=hid bq;have HL:=hid hl;have bK:N<=100000000:=by rw[<-HN.out];exact hn
 rw[HN.out];clear hP bq hl hn ht;go_enter func92,ntmps92;go_wp2;go_loopg [3,9] N (fun q sv iv wr=>∃ (i:Nat) (u:Value),iv=.int .i64 i/\u=sv/\q=N-i/\i<=N/\Hid (Bb w wr G u (wrL (ss.take i))));case atStart=>exact⟨0,_,rfl,rfl,rfl,Nat.zero_le _,br⟩
 obtain⟨i,u,rfl,hu,hq,bL,HB⟩:=hrel;subst hu;by_cases aK:i<N;rotate_left
 ·have bp:¬ (i:Int)<(N:Int):=by omega
  obtain rfl:i=N:=by omega
  have HF:Hid (Bb w wr w.heap.size u (wrL ss)):=hid (by
   have h1:=HB.out;rw[List.take_of_length_le (by rw[HN.out];exact Wz8 _)] at h1;rw[HG.out];exact h1)
  go_wp2;exact bodyPost_ret (results_tmp results92 _ _ _) rfl ⟨u,rfl,HF.out⟩
 have bp:(i:Int)<(N:Int):=by omega
 have bN:G<=wr.heap.size:=by have:=HB.out.below.size;have:=HG.out;omega
 obtain⟨b,off,e1,_,e3⟩:=(bC.out _ HB.out.below).at_ (by rw[HN.out];omega);subst e1;have e4:=e3 i (by rw[HN.out];exact aK);obtain⟨s,hs⟩:∃ s,ss.getD i dS=s:=⟨_,rfl⟩;rw[hs] at e4;have aZ:StL s:=by rw[<-hs];exact bz.out _ (zQ ss i dS (by rw[HN.out];exact aK))
 have hlen:(wrL (ss.take i)).length+(lnS s).length+1<=300000000:=by
  have h1:=quQ ss (i+1);rw[Pj ss i (by rw[HN.out];exact aK) dS,hs] at h1;simp only[Wzy,Wzu,WzQ] at h1;have:=HL.out;omega
 have av:Hid (wrL (ss.take (i+1))=wrL (ss.take i)++lnS s++[10]):=hid (by rw[Pj ss i (by rw[HN.out];exact aK) dS,hs]);obtain⟨B,HS⟩:=sa s aZ.1 wr.heap.size;obtain⟨BL,ay⟩:∃ B,zJ s=B:=⟨_,rfl⟩;have aw:BL.length=68:=by rw[<-ay];exact qx aZ.1
 have ax:B=BL.toArray:=by rw[<-HS.out.e,ay]
 have au:Hid ((prog.info? 146).map (·.size)=some BL.length):=hid (by rw[aw];kernel_rfl);have ao:Hid ((prog.info? 146).map (·.size)=some B.size):=hid (by rw[ax,Wyu];exact au.out);have ap:Hid (68=B.size):=hid (by rw[ax,Wyu,aw])
 have aG:Hid (B.all (·.oneCell')=true):=hid (by rw[ax];exact all_oneCell_toArray (by rw[<-ay];exact yk s));rw[ay] at e4;have aH:=hid e4;have aE:=hid ax;obtain⟨w1,am⟩:∃ w1,wr.alloc (.cells B 146)=w1:=⟨_,rfl⟩;have aJ:w1.heap[wr.heap.size]? = some (.cells B 146):=by rw[<-am];exact heap_alloc_new _ _
 have bG:Below wr.heap.size wr w1:=by rw[<-am];exact(Below.refl _ _).alloc (Wz8 _) _
 have ar:Hid (Bb w w1 G u (wrL (ss.take i))):=hid (by rw[<-am];exact HB.out.alloc _);have L:=Pk HS.out aJ;have ad:=z7 aJ;clear e3 e4 hs ay aw ax;obtain⟨ag,M⟩:=aZ;obtain⟨out,bf⟩:=nm_ (wrL (ss.take i));rw[bf.out] at ar HB hlen av;rcases M with M | M | M | ⟨M,aP⟩
 ·have V:wsS s=[wR,s.name,yV s.id]:=by unfold wsS;rw[M];rfl
  have Z:Hid (∀ v' w',Bb w w' G v' (out++jw [wR,s.name,yV s.id]++[10])->Bb w w' G v' (wrL (ss.take (i+1)))):=fun v' w' h=>by rw[av.out];unfold lnS;rw[V];exact h
  have aF:Hid (out.length+(jw [wR,s.name,yV s.id]).length+1<=300000000):=hid (by rw[<-V];exact hlen);have bu:Hid (IdW s.id):=hid ag.id;rw[M] at L;unfold wR at L;have a6:=L.c0;obtain⟨R,hR⟩:∃ R,row .u8 s.id=R:=⟨_,rfl⟩;have HR:=hid hR;have b8:Hid ((prog.info? 116).map (·.size)=some R.length):=hid (by rw[<-hR,zv,ag.id.1];kernel_rfl);rw[hR] at L
  have J:=hid L;have bJ:=hid aJ;clear L V hlen M hR;go_wp2_with (first
   | (refine wpList_load_mid rfl 146 (.tmp 11) rfl _ _ rfl BL _ aH.out underlying146 rfl au.out ?_;rw[<-aE.out];go_frame)
   | (refine zq rfl 146 (.tmp 5) (.tmp 12) rfl _ B rfl rfl ao.out (by rw[<-ap.out];rfl) aG.out ?_;rw[am];go_frame)
   | fail)
  have bm:Qs wr.heap.size ⟨#[114,101,102]⟩ ⟨s.name.toArray⟩ ⟨s.tg.toArray⟩ R (qw s.e) w1.drew:=⟨J.out.c0,J.out.c1,J.out.c22,J.out.r2,J.out.r23⟩;refine wp_region_held_drew (S:=Qs wr.heap.size ⟨#[114,101,102]⟩ ⟨s.name.toArray⟩ ⟨s.tg.toArray⟩ R (qw s.e)) (by kernel_rfl) bm (fun A=>?_);clear bm;have ai:Below w1.heap.size w1 w1.drew:=zj _ _ 1
  have aD:w1.drew.heap.size=w1.heap.size:=rfl;generalize w1.drew=u0 at A ai aD ⊢;iterate 6
   refine qy (v:=?_) A ?_ ?_;rotate_left
   ·rintro w' ⟨c0,c1,c22,r2,r23⟩;go_simp;rfl
   try simp only[Act.put,sL]
  refine qZ (i:=6) (v:=.agg R.toArray) A (fun w' ak=>zY 116 (.tmp 22) rfl wr.heap.size 2 rfl R _ ak.r2 underlying116 rfl b8.out) ?_;try simp only[Act.put,sL]
  have aj:=W8 s.id bu.out u0;rw[HR.out] at aj;refine wpAnyH_ready (rs:=[7]) (by kernel_rfl) (by simp) ?_;refine xw rfl (fun KK I=>?_) AllReadyH.nil;refine qY (by rfl) 115 [.tmp 23] _ [.agg R.toArray] _ (by rfl) (by rfl) (fun w=>by kernel_rfl) aj ?_;rintro e u1 ⟨rfl,ac⟩;have O:Below w1.heap.size w1 u1:=ai.trans (ac.mono (by omega))
  have HQ:Hid (∀ W,Below w1.heap.size w1 W->Qs wr.heap.size ⟨#[114,101,102]⟩ ⟨s.name.toArray⟩ ⟨s.tg.toArray⟩ R (qw s.e) W):=fun W hW=>by
   have h1:=ad;exact⟨(hW.cell (p:=⟨wr.heap.size,0,none⟩) h1).trans J.out.c0,(hW.cell (p:=⟨wr.heap.size,1,none⟩) h1).trans J.out.c1,(hW.cell (p:=⟨wr.heap.size,22,none⟩) h1).trans J.out.c22,fun j v hv=>(hW.cell (p:=⟨wr.heap.size,2+j,none⟩) h1).trans (J.out.r2 j v hv),fun j v hv=>(hW.cell (p:=⟨wr.heap.size,23+j,none⟩) h1).trans (J.out.r23 j v hv)⟩
  refine⟨_,rfl,I.out _ _ (HQ.out _ O) (fun D=>?_)⟩;clear I KK A;have A:=D;clear D;try simp only[Act.put,sL]
  obtain⟨u2,aS⟩:=nm_ (u1.alloc (.cells #[.string ⟨#[114,101,102]⟩,.string ⟨s.name.toArray⟩,.string ⟨(yV s.id).toArray⟩] 9));have aL:Below u1.heap.size u1 u2:=by rw[<-aS.out];exact(Below.refl _ _).alloc (Wz8 _) _
  have Q:Below w1.heap.size w1 u2:=O.trans (aL.mono O.size);refine wpAnyH_ready (rs:=[8]) (by kernel_rfl) (by simp) ?_;refine xw rfl (fun KK I=>?_) AllReadyH.nil;refine jX (by rfl) (.slice (some ⟨u1.heap.size,0,none⟩) 3 3) (w':=u2) (by rw[<-aS.out];go_simp) ?_;refine I.out _ _ (HQ.out _ Q) (fun D=>?_);clear I KK A;have A:=D
  clear D;try simp only[Act.put,sL]
  have K:=Vv w u1 G u out [wR,s.name,yV s.id] 3 rfl (ar.out.carry O) aF.out (by simp) u2 aS.out;refine wpAnyH_ready (rs:=[9]) (by kernel_rfl) (by simp) ?_;refine xw rfl (fun KK I=>?_) AllReadyH.nil;refine qY (by rfl) 118 [.tmp 17,.tmp 25] _ [u,.slice (some ⟨u1.heap.size,0,none⟩) 3 3] _ (by rfl) (by rfl) (fun w=>by kernel_rfl) K ?_
  rintro e u3 ⟨v5,rfl,k1,k2⟩;have aB:Qs wr.heap.size ⟨#[114,101,102]⟩ ⟨s.name.toArray⟩ ⟨s.tg.toArray⟩ R (qw s.e) u3:=by
   have h1:wr.heap.size<u2.heap.size:=Wq2 ad Q.size;have h2:u3.heap[wr.heap.size]? = u2.heap[wr.heap.size]? := k2.blk _ h1 (fun e=>by have:=(yu HB.out.own _ e.symm).2;exact Wxz _ this);have h3:=HQ.out _ Q
   exact⟨(World.cell?_of_block (a:=⟨wr.heap.size,0,none⟩) h2).trans h3.c0,(World.cell?_of_block (a:=⟨wr.heap.size,1,none⟩) h2).trans h3.c1,(World.cell?_of_block (a:=⟨wr.heap.size,22,none⟩) h2).trans h3.c22,fun j v hv=>(World.cell?_of_block (a:=⟨wr.heap.size,2+j,none⟩) h2).trans (h3.r2 j v hv),fun j v hv=>(World.cell?_of_block (a:=⟨wr.heap.size,23+j,none⟩) h2).trans (h3.r23 j v hv)⟩
  refine⟨_,rfl,I.out _ _ aB (fun D=>?_)⟩;clear I KK A;have A:=D;clear D;try simp only[Act.put,sL]
  refine qy (v:=?_) A ?_ ?_;rotate_left
  ·rintro w' ⟨c0,c1,c22,r2,r23⟩;go_simp;rfl
  try simp only[Act.put,sL]
  have ah:=hid (Z.out _ _ k1);clear A aB ai O Q aL aD k1 k2 K ac aj;refine wpAnyH_done (by kernel_rfl) ?_ _;go_wp2;go_roundg (N-(i+1));case measure=>omega
  case rel=>exact⟨i+1,_,by go_num,rfl,rfl,by omega,ah⟩
 ·have V:wsS s=[wL,s.name,s.tg]:=by unfold wsS;rw[M];rfl
  have K:=Vv w w1 G u out [wL,s.name,s.tg] 3 rfl ar.out (by rw[<-V];exact hlen) (by simp) _ rfl;have Z:Hid (∀ v' w',Bb w w' G v' (out++jw [wL,s.name,s.tg]++[10])->Bb w w' G v' (wrL (ss.take (i+1)))):=fun v' w' h=>by rw[av.out];unfold lnS;rw[V];exact h
  have a6:=L.c0;have bH:=L.c1;have bn:=L.c22;rw[M] at a6;unfold wL at a6;simp only[WzK,WzV] at K;unfold sV at K;unfold wL at K;have aQ:=hid K;clear L K V hlen M;go_wp2_with (first
   | (refine wpList_load_mid rfl 146 (.tmp 11) rfl _ _ rfl BL _ aH.out underlying146 rfl au.out ?_;rw[<-aE.out];go_frame)
   | (refine zq rfl 146 (.tmp 5) (.tmp 12) rfl _ B rfl rfl ao.out (by rw[<-ap.out];rfl) aG.out ?_;rw[am];go_frame)
   | (go_at_call 118;refine aQ.out.mono ?_;rintro e w5 ⟨v5,rfl,k1,k2⟩;have ah:=hid (Z.out _ _ k1);clear k1 k2))
  go_roundg (N-(i+1));case measure=>omega
  case rel=>exact⟨i+1,_,by go_num,rfl,rfl,by omega,ah⟩
 ·have V:wsS s=[wD,s.name]:=by unfold wsS;rw[M];rfl
  have K:=Vv w w1 G u out [wD,s.name] 2 rfl ar.out (by rw[<-V];exact hlen) (by simp) _ rfl;have Z:Hid (∀ v' w',Bb w w' G v' (out++jw [wD,s.name]++[10])->Bb w w' G v' (wrL (ss.take (i+1)))):=fun v' w' h=>by rw[av.out];unfold lnS;rw[V];exact h
  have a6:=L.c0;have bH:=L.c1;have bn:=L.c22;rw[M] at a6;unfold wD at a6;simp only[WzK,WzV] at K;unfold sV at K;unfold wD at K;have aQ:=hid K;clear L K V hlen M;go_wp2_with (first
   | (refine wpList_load_mid rfl 146 (.tmp 11) rfl _ _ rfl BL _ aH.out underlying146 rfl au.out ?_;rw[<-aE.out];go_frame)
   | (refine zq rfl 146 (.tmp 5) (.tmp 12) rfl _ B rfl rfl ao.out (by rw[<-ap.out];rfl) aG.out ?_;rw[am];go_frame)
   | (go_at_call 118;refine aQ.out.mono ?_;rintro e w5 ⟨v5,rfl,k1,k2⟩;have ah:=hid (Z.out _ _ k1);clear k1 k2))
  go_roundg (N-(i+1));case measure=>omega
  case rel=>exact⟨i+1,_,by go_num,rfl,rfl,by omega,ah⟩
 have V:wsS s=[wG,s.name,yV s.e.old,yV s.e.new,xk s.e.who++9 :: s.e.text]:=by unfold wsS;rw[M];rfl
 have Z:Hid (∀ v' w',Bb w w' G v' (out++jw [wG,s.name,yV s.e.old,yV s.e.new,xk s.e.who++9 :: s.e.text]++[10])->Bb w w' G v' (wrL (ss.take (i+1)))):=fun v' w' h=>by rw[av.out];unfold lnS;rw[V];exact h
 have aF:Hid (out.length+(jw [wG,s.name,yV s.e.old,yV s.e.new,xk s.e.who++9 :: s.e.text]).length+1<=300000000):=hid (by rw[<-V];exact hlen);have bM:(xk s.e.who).length+1+s.e.text.length<=300000000:=by
  have h1:=aF.out;simp[jw] at h1;omega
 have b7:=hid ag.e;have bB:=hid aP;obtain⟨EL,aA⟩:∃ E,qw s.e=E:=⟨_,rfl⟩;have az:EL.length=45:=by rw[<-aA];exact yQ ag.e
 have b9:Hid ((prog.info? 133).map (·.size)=some EL.length):=hid (by rw[az];kernel_rfl);have be:Hid ((prog.info? 133).map (·.size)=some EL.toArray.size):=hid (by rw[Wyu];exact b9.out);have bk:Hid (45=EL.toArray.size):=hid (by rw[Wyu,az])
 have bw:Hid (EL.toArray.all (·.oneCell')=true):=hid (all_oneCell_toArray (by rw[<-aA];exact uZ _));have bg:Hid (w1.rangeAt wr.heap.size 23 EL):=hid (by rw[<-aA];exact L.r23);obtain⟨w2,b2⟩:∃ w2,w1.alloc (.cells EL.toArray 133)=w2:=⟨_,rfl⟩;have aI:Below w1.heap.size w1 w2:=by rw[<-b2];exact(Below.refl _ _).alloc (Wz8 _) _
 have aW:w2.heap[w1.heap.size]? = some (.cells (qw s.e).toArray 133):=by rw[<-b2,aA];exact heap_alloc_new _ _
 have bo:w2.heap[wr.heap.size]? = some (.cells B 146):=(aI.block _ ad).trans aJ;have aC:=qe_of ag HS.out bo aW;have b6:Hid (Bb w w2 G u out):=hid (ar.out.carry aI);have bE:Hid (Tab w2):=hid (bD.out _ b6.out.below);have ae:w1.heap.size<w2.heap.size:=z7 aW;obtain⟨X,hX⟩:∃ R,row .u8 s.e.old=R:=⟨_,rfl⟩;obtain⟨Y,hY⟩:∃ R,row .u8 s.e.new=R:=⟨_,rfl⟩
 obtain⟨P,aR⟩:∃ P:List Value,Hid (x8 s.e.who=P.toArray):=⟨(x8 s.e.who).toList,hid (by simp)⟩;have bi:Hid ((prog.info? 116).map (·.size)=some X.length):=hid (by rw[<-hX,zv,ag.e.1.1];kernel_rfl);have bj:Hid ((prog.info? 116).map (·.size)=some Y.length):=hid (by rw[<-hY,zv,ag.e.2.1];kernel_rfl)
 have bA:Hid ((prog.info? 45).map (·.size)=some P.length):=hid (by rw[show P.length=4 by rw[<-Wyu,<-aR.out];rfl];kernel_rfl);have a6:=L.c0;rw[M] at aC a6;unfold wG at aC a6;rw[hX,hY,aR.out,List.toList_toArray] at aC;have HX:=hid hX;have HY:=hid hY;have J:=hid aC;obtain⟨X1,aV⟩:=nm_ (⟨(xk s.e.who).toArray⟩ ++ ⟨#[9]⟩:ByteArray)
 obtain⟨X2,bh⟩:=nm_ (X1 ++ ⟨s.e.text.toArray⟩:ByteArray);have bF:Hid (X2=⟨(xk s.e.who++9 :: s.e.text).toArray⟩):=hid (by rw[<-bh.out,<-aV.out];apply ByteArray.ext;simp);have bI:(⟨(xk s.e.who).toArray⟩:ByteArray).size=(xk s.e.who).length:=by simp[Wqz]
 have bO:X1.size=(xk s.e.who).length+1:=by rw[<-aV.out,ByteArray.size_append,bI];rfl
 have bP:(⟨s.e.text.toArray⟩:ByteArray).size=s.e.text.length:=by simp[Wqz]
 clear L V hlen M hX hY aA az aC ag aP aW bo;go_wp2_with (first
  | (refine wpList_load_mid rfl 146 (.tmp 11) rfl _ _ rfl BL _ aH.out underlying146 rfl au.out ?_;rw[<-aE.out];go_frame)
  | (refine zq rfl 146 (.tmp 5) (.tmp 12) rfl _ B rfl rfl ao.out (by rw[<-ap.out];rfl) aG.out ?_;rw[am];go_frame)
  | (refine wpList_load_mid rfl 133 (.tmp 49) rfl _ 23 rfl EL _ bg.out underlying133 rfl b9.out ?_;go_frame)
  | (refine zq rfl 133 (.tmp 6) (.tmp 50) rfl _ EL.toArray rfl rfl be.out (by rw[<-bk.out];rfl) bw.out ?_;rw[b2];go_frame))
 have HQ:Hid (∀ W,Below w2.heap.size w2 W->(Qe wr.heap.size w1.heap.size ⟨#[108,111,103]⟩ ⟨s.name.toArray⟩ ⟨s.e.text.toArray⟩ X Y P) W):=fun W hW=>by
  have h1:wr.heap.size<w2.heap.size:=Wq2 ad aI.size
  exact⟨(hW.cell (p:=⟨wr.heap.size,0,none⟩) h1).trans J.out.c0,(hW.cell (p:=⟨wr.heap.size,1,none⟩) h1).trans J.out.c1,fun j v hv=>(hW.cell (p:=⟨w1.heap.size,0+j,none⟩) ae).trans (J.out.r0 j v hv),fun j v hv=>(hW.cell (p:=⟨w1.heap.size,20+j,none⟩) ae).trans (J.out.r20 j v hv),fun j v hv=>(hW.cell (p:=⟨w1.heap.size,40+j,none⟩) ae).trans (J.out.r40 j v hv),(hW.cell (p:=⟨w1.heap.size,44,none⟩) ae).trans J.out.c44⟩
 refine wp_region_held_drew (S:=(Qe wr.heap.size w1.heap.size ⟨#[108,111,103]⟩ ⟨s.name.toArray⟩ ⟨s.e.text.toArray⟩ X Y P)) (by kernel_rfl) (HQ.out _ (zj _ _ 1)) (fun A=>?_);have ai:Below w2.heap.size w2 w2.drew:=zj _ _ 1;have aD:w2.drew.heap.size=w2.heap.size:=rfl;generalize w2.drew=u0 at A ai aD ⊢;iterate 6
  refine qy (v:=?_) A ?_ ?_;rotate_left
  ·rintro w' ⟨c0,c1,r0,r20,r40,c44⟩;go_simp;rfl
  try simp only[Act.put,sL]
 refine qZ (i:=6) (v:=.agg X.toArray) A (fun w' ak=>zY 116 (.tmp 56) rfl w1.heap.size 0 rfl X _ ak.r0 underlying116 rfl bi.out) ?_;try simp only[Act.put,sL]
 refine tZ (i:=8) A ?_;try simp only[Act.put,sL]
 refine qZ (i:=9) (v:=.agg Y.toArray) A (fun w' ak=>zY 116 (.tmp 59) rfl w1.heap.size 20 rfl Y _ ak.r20 underlying116 rfl bj.out) ?_;try simp only[Act.put,sL]
 refine tZ (i:=11) A ?_;try simp only[Act.put,sL]
 refine qZ (i:=12) (v:=.agg P.toArray) A (fun w' ak=>zY 45 (.tmp 62) rfl w1.heap.size 40 rfl P _ ak.r40 underlying45 rfl bA.out) ?_;try simp only[Act.put,sL]
 refine tZ (i:=15) A ?_;try simp only[Act.put,sL]
 refine tZ (i:=16) A ?_;try simp only[Act.put,sL]
 have aj:=W8 s.e.old b7.out.1 u0;rw[HX.out] at aj;refine wpAnyH_ready (rs:=[7]) (by kernel_rfl) (by simp) ?_;refine xw rfl (fun KK I=>?_) AllReadyH.nil;refine qY (by rfl) 115 [.tmp 57] _ [.agg X.toArray] _ (by rfl) (by rfl) (fun w=>by kernel_rfl) aj ?_;rintro e u1 ⟨rfl,ac⟩;have O:Below w2.heap.size w2 u1:=ai.trans (ac.mono (by omega))
 refine⟨_,rfl,I.out _ _ (HQ.out _ O) (fun D=>?_)⟩;clear I KK A;have A:=D;clear D;try simp only[Act.put,sL]
 have aX:=W8 s.e.new b7.out.2 u1;rw[HY.out] at aX;refine wpAnyH_ready (rs:=[10]) (by kernel_rfl) (by simp) ?_;refine xw rfl (fun KK I=>?_) AllReadyH.nil;refine qY (by rfl) 115 [.tmp 60] _ [.agg Y.toArray] _ (by rfl) (by rfl) (fun w=>by kernel_rfl) aX ?_;rintro e u2 ⟨rfl,aM⟩;have Q:Below w2.heap.size w2 u2:=O.trans (aM.mono O.size)
 refine⟨_,rfl,I.out _ _ (HQ.out _ Q) (fun D=>?_)⟩;clear I KK A;have A:=D;clear D;try simp only[Act.put,sL]
 have aY:=JV s.e.who bB.out u2 (bE.out.below Q);rw[aR.out] at aY;refine wpAnyH_ready (rs:=[13]) (by kernel_rfl) (by simp) ?_;refine xw rfl (fun KK I=>?_) AllReadyH.nil;refine qY (by rfl) 119 [.tmp 63] _ [.agg P.toArray] _ (by rfl) (by rfl) (fun w=>by kernel_rfl) aY ?_;rintro e u3 ⟨rfl,aN⟩
 have a7:Below w2.heap.size w2 u3:=Q.trans (aN.mono Q.size);refine⟨_,rfl,I.out _ _ (HQ.out _ a7) (fun D=>?_)⟩;clear I KK A;have A:=D;clear D;try simp only[Act.put,sL]
 refine qZ (i:=14) (v:=.string X1) A ?_ ?_
 ·rintro w' ⟨c0,c1,r0,r20,r40,c44⟩;rw[<-aV.out];go_simp;first | done | omega | rfl
 try simp only[Act.put,sL]
 refine qZ (i:=17) (v:=.string X2) A ?_ ?_
 ·rintro w' ⟨c0,c1,r0,r20,r40,c44⟩;rw[<-bh.out];go_simp;first | done | omega | rfl
 try simp only[Act.put,sL]
 obtain⟨u4,aU⟩:=nm_ (u3.alloc (.cells #[.string ⟨#[108,111,103]⟩,.string ⟨s.name.toArray⟩,.string ⟨(yV s.e.old).toArray⟩,.string ⟨(yV s.e.new).toArray⟩,.string X2] 9));have aO:Below u3.heap.size u3 u4:=by rw[<-aU.out];exact(Below.refl _ _).alloc (Wz8 _) _
 have a8:Below w2.heap.size w2 u4:=a7.trans (aO.mono a7.size);refine wpAnyH_ready (rs:=[18]) (by kernel_rfl) (by simp) ?_;refine xw rfl (fun KK I=>?_) AllReadyH.nil;refine jX (by rfl) (.slice (some ⟨u3.heap.size,0,none⟩) 5 5) (w':=u4) (by rw[<-aU.out];go_simp) ?_;refine I.out _ _ (HQ.out _ a8) (fun D=>?_);clear I KK A;have A:=D
 clear D;try simp only[Act.put,sL]
 have K:=Vv w u3 G u out [wG,s.name,yV s.e.old,yV s.e.new,xk s.e.who++9 :: s.e.text] 5 rfl (b6.out.carry a7) aF.out (by simp) u4 (by rw[<-aU.out,bF.out];rfl);refine wpAnyH_ready (rs:=[19]) (by kernel_rfl) (by simp) ?_;refine xw rfl (fun KK I=>?_) AllReadyH.nil
 refine qY (by rfl) 118 [.tmp 51,.tmp 69] _ [u,.slice (some ⟨u3.heap.size,0,none⟩) 5 5] _ (by rfl) (by rfl) (fun w=>by kernel_rfl) K ?_;rintro e u5 ⟨v5,rfl,k1,k2⟩;have aB:(Qe wr.heap.size w1.heap.size ⟨#[108,111,103]⟩ ⟨s.name.toArray⟩ ⟨s.e.text.toArray⟩ X Y P) u5:=by
  have h1:wr.heap.size<u4.heap.size:=Wq2 ad (Nat.le_trans aI.size a8.size);have g1:w1.heap.size<u4.heap.size:=Wq2 ae a8.size;have h2:u5.heap[wr.heap.size]? = u4.heap[wr.heap.size]? := k2.blk _ h1 (fun e=>by have:=(yu HB.out.own _ e.symm).2;exact Wxz _ this)
  have g2:u5.heap[w1.heap.size]? = u4.heap[w1.heap.size]? := k2.blk _ g1 (fun e=>by have:=(yu HB.out.own _ e.symm).2;have:=bG.size;omega);have h3:=HQ.out _ a8
  exact⟨(World.cell?_of_block (a:=⟨wr.heap.size,0,none⟩) h2).trans h3.c0,(World.cell?_of_block (a:=⟨wr.heap.size,1,none⟩) h2).trans h3.c1,fun j v hv=>(World.cell?_of_block (a:=⟨w1.heap.size,0+j,none⟩) g2).trans (h3.r0 j v hv),fun j v hv=>(World.cell?_of_block (a:=⟨w1.heap.size,20+j,none⟩) g2).trans (h3.r20 j v hv),fun j v hv=>(World.cell?_of_block (a:=⟨w1.heap.size,40+j,none⟩) g2).trans (h3.r40 j v hv),(World.cell?_of_block (a:=⟨w1.heap.size,44,none⟩) g2).trans h3.c44⟩
 refine⟨_,rfl,I.out _ _ aB (fun D=>?_)⟩;clear I KK A;have A:=D;clear D;try simp only[Act.put,sL]
 refine qy (v:=?_) A ?_ ?_;rotate_left
 ·rintro w' ⟨c0,c1,r0,r20,r40,c44⟩;go_simp;rfl
 try simp only[Act.put,sL]
 have ah:=hid (Z.out _ _ k1);clear A aB ai O Q a7 a8 aO aD k1 k2 K ac aM aN aj aX aY;refine wpAnyH_done (by kernel_rfl) ?_ _;go_wp2;go_roundg (N-(i+1));case measure=>omega
 case rel=>exact⟨i+1,_,by go_num,rfl,rfl,by omega,ah⟩
end Go.Proofs.YtdnphaganajejaaGreatDoor.K
