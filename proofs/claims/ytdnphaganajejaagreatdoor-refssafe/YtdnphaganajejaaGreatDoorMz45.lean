import Derived.Test.YtdnphaganajejaaGreatDoorMz29
set_option linter.unusedSimpArgs false
set_option linter.unusedVariables false
set_option maxRecDepth 20000
set_option maxHeartbeats 4000000
open List renaming append_nil->Wxw,flatMap_cons->Wzk,flatMap_nil->Wxy,length_singleton->WyV,map_nil->WzV,mem_singleton->Wqk,take_of_length_le->Wq0,take_zero->Wu1
open Nat renaming le_refl->Wz8
namespace Go.Proofs.YtdnphaganajejaaGreatDoor.K
open Go.Proofs.Tryz
open Go.RowKit
theorem results48:f48.results=#[.tmp 4]:=by kernel_rfl
def chg (l:List Str) (e:Le):List Sp:=if e.new=zZ then ⟨wD,l.getD (l.length-1) [],zZ,[],zL⟩ :: l.dropLast.map (fun x=>lg1 x e) else ⟨wR,l.getD (l.length-1) [],e.new,[],zL⟩ :: l.map (fun x=>lg1 x e)
theorem I6 {W:World} {k B n:Nat} {e:TypeId} {cur:List Value} (h:W.heap[k]? = some (.cells cur.toArray e (0,0))) (j:cur.length=n) (hB:B<=k):W.ownsRow B e n (.slice (some ⟨k,0,none⟩) 1 1) 1 cur :=
 ⟨by rw[j,Nat.one_mul],.inr ⟨k,1,cur.toArray,rfl,hB,h,Wz8 _,by unfold maxLen;omega,by simp[j],by rw[Nat.one_mul,<-j];simp⟩⟩
def BY (l:List Str) (e:Le) (w:World) (en:Ending) (w':World):Prop := ∃ v,en=.returned v/\Bx zJ 68 146 w w' w.heap.size v (chg l e)
structure Qh (b off c n r:Nat) (x:ByteArray) (R:List Value) (W:World):Prop where
 c0:W.cell? ⟨b,off+n,none⟩=some (.string x)
 r20:W.rangeAt r 20 R
theorem A8 (a:Option Addr) (c:Nat) (l:List Str) (e:Le) (w:World) (hP:Px eT 1 [] w a c l) (h0:0<l.length) (h9:l.length<=1000) (ay:∀ x ∈ l,x.length<=60) (he:vY e) :
  Calls prog 48 #[.slice a l.length c,.agg (qw e).toArray] w (BY l e w):=by
 obtain⟨r,HR⟩:=nm_ w.heap.size;obtain⟨n,hn⟩:∃ n,l.length=n+1:=⟨l.length-1,by omega⟩;have HN:=hid hn;have bk:n<=999:=by omega
 have bg:(n:Int)<(n:Int)+1:=by omega
 obtain⟨E,hE⟩:∃ E,qw e=E:=⟨_,rfl⟩;have aV:=hid hE;have aX:E.length=45:=by rw[<-hE];exact yQ he
 have av:Hid ((prog.info? 133).map (·.size)=some E.toArray.size):=hid (by rw[List.size_toArray,aX];kernel_rfl);obtain⟨L,ap⟩:=nm_ (w.alloc (.cells E.toArray 133));have aA:Hid (Below r w L):=hid (by rw[<-ap.out,<-HR.out];exact(Below.refl _ w).alloc (Wz8 _) _);have b7:L.heap.size=r+1:=by rw[<-ap.out,<-HR.out];simp
 have aH:Hid (L.heap[r]? = some (.cells E.toArray 133)):=hid (by rw[<-ap.out,<-HR.out];exact heap_alloc_new _ _);have ao:Hid (∀ W,Below r w W->Px eT 1 [] W a c l):=fun W hW=>hP.below (by rw[HR.out];exact hW);obtain⟨b,off,ae,_,_⟩:=hP.at_ h0;subst ae;obtain⟨z,hz⟩:∃ z,l.getD (l.length-1) []=z:=⟨_,rfl⟩
 have az:z.length<=60:=by rw[<-hz];exact ay _ (zQ l _ [] (by omega))
 obtain⟨Z,HZ⟩:=nm_ (⟨z.toArray⟩:ByteArray);obtain⟨R,hR⟩:∃ R,row .u8 e.new=R:=⟨_,rfl⟩;have aY:R.length=20:=by rw[<-hR,zv];exact he.2.1
 have ac:Hid ((prog.info? 116).map (·.size)=some R.length):=hid (by rw[aY];kernel_rfl);have HQ:Hid (∀ W,Below (r+1) L W->Qh b off c n r Z R W):=fun W hW=>by
  have J:Below r w W:=aA.out.trans (hW.mono (by omega));refine⟨?_,?_⟩
  ·obtain⟨_,_,e1,_,e3⟩:=(ao.out W J).at_ h0;cases e1
   have:=e3 n (by omega) 0 _ rfl;rw[show l.getD n []=z by rw[<-hz,hn];rfl] at this;rw[<-HZ.out];simpa [sV] using this
  intro j v hv;have h1:=(hW.block r (by omega)).trans aH.out;have h2:=zw h1 (20+j) v (by
   rw[<-hE];unfold qw;rw[List.getElem?_append_right (by rw[zv,he.1.1];omega),zv,he.1.1,show 20+j-20=j by omega,List.getElem?_append_left (by rw[hR];exact(List.getElem?_eq_some_iff.1 hv).1),hR];exact hv)
  rw[Nat.zero_add] at h2;exact h2
 obtain⟨FL,M⟩:∃ F,zJ ⟨wR,z,e.new,[],zL⟩=F:=⟨_,rfl⟩;have b6:vV ⟨wR,z,e.new,[],zL⟩:=⟨he.2,yz,az,by simp⟩;have aW:Hid (FL.length=68):=hid (by rw[<-M];exact qx b6)
 have aR:Hid (∀ W:World,(Instr.build 146 #[(0,.string ⟨#[114,101,102]⟩),(1,.string Z),(2,.agg R.toArray)]).run prog W=.ok (.agg FL.toArray) W):=fun W=>by rw[<-M,<-HZ.out,<-hR];exact bdS3 _ _ e.new he.2.1 W
 have aS:Hid (∀ W:World,(Instr.buildSlice 126 1 #[(0,.agg FL.toArray)]).run prog W=.ok (.slice (some ⟨W.heap.size,0,none⟩) 1 1) (W.alloc (.cells FL.toArray 146))):=fun W=>by rw[<-M];exact j4 _ b6 W
 have am:=hid he;have aw:=hid ay;rw[hn,hE];clear hP;go_enter func48,ntmps48;go_wp2;rw[ap.out,HR.out];have ar:Below (r+1) L L.drew:=by rw[<-b7];exact zj _ _ 1
 have aL:=HQ.out _ ar;refine wp_region_held_drew (S:=Qh b off c n r Z R) (by kernel_rfl) aL (fun h=>?_);have aM:L.drew.heap.size=L.heap.size:=rfl;generalize L.drew=u0 at h ar aL aM ⊢;iterate 5
  refine qy (v:=?_) h ?_ ?_;rotate_left
  ·rintro w' ⟨c0,c1⟩;go_simp;rfl
  try simp only[Act.put,sL]
 refine qZ (i:=5) (v:=.agg R.toArray) h (fun w' b8=>zY 116 (.tmp 16) rfl r 20 rfl R _ b8.r20 underlying116 rfl ac.out) ?_;try simp only[Act.put,sL]
 refine qZ (i:=6) (v:=.agg FL.toArray) h (fun w' b8=>Zu 146 0 1 2 (.const (.string ⟨#[114,101,102]⟩)) (.tmp 15) (.tmp 17) rfl (.string ⟨#[114,101,102]⟩) (.string Z) (.agg R.toArray) _ rfl rfl rfl (aR.out _)) ?_;try simp only[Act.put,sL]
 have A:Below (r+1) L (u0.alloc (.cells FL.toArray 146)):=ar.alloc (by omega) _;refine quX 7 (.slice (some ⟨u0.heap.size,0,none⟩) 1 1) (qJ 126 (.tmp 18) rfl (.agg FL.toArray) _ rfl (aS.out u0)) (HQ.out _ A) (fun h=>?_);try simp only[Act.put,sL]
 refine qy (v:=?_) h ?_ ?_;rotate_left
 ·rintro w' ⟨c0,c1⟩;go_simp;rfl
 try simp only[Act.put,sL]
 refine wpAnyH_done (by kernel_rfl) ?_ _;have ai:u0.heap.size=r+1:=by rw[aM,b7]
 obtain⟨u1,aK⟩:=nm_ (u0.alloc (.cells FL.toArray 146));have a6:u1.heap[r+1]? = some (.cells FL.toArray 146):=by rw[<-aK.out,<-ai];exact heap_alloc_new _ _
 have bh:u1.heap.size=r+1+1:=by rw[<-aK.out];simp[ai]
 rw[aK.out] at A ⊢;rw[ai];have ax:Hid (u1.rangeAt r 20 R):=hid (HQ.out _ A).r20;have au:∀ W:World,(Op.equalIn 10000 116 (.agg R.toArray) (.agg z89)).run prog W=.ok (decide (e.new=zZ)) W:=fun W=>by rw[<-hR,<-Fy];exact KZ 116 Y8 _ _ he.2.1 rfl W
 have b2:∀ W:World,(Instr.build 116 #[]).run prog W=.ok (.agg z89) W:=fun W=>by rw[UV,Fy]
 have ak:=hid b2;clear h aL ar aM b2;by_cases Y:e.new=zZ;rotate_left
 ·rw[decide_eq_false Y] at au;have a8:Hid (Bx zJ 68 146 L u1 (r+1) (.slice (some ⟨r+1,0,none⟩) 1 1) (⟨wR,z,e.new,[],zL⟩ :: (l.take 0).map fun x=>lg1 x e)):=hid ⟨A,by
   simp only[Wu1,WzV,WyV,Wzk,Wxy,Wxw];rw[M];exact I6 a6 aW.out (Wz8 _),by omega⟩
  have aJ:Hid (∀ i,i<n+1->l.take (i+1)=l.take i++[l.getD i []]):=fun i hi=>qk [] l i (by rw[hn];exact hi);have O:Hid ((⟨wR,z,e.new,[],zL⟩:Sp) :: (l.take (n+1)).map (fun x=>lg1 x e)=chg l e):=hid (by
   unfold chg;rw[if_neg Y,hz,Wq0 (by rw[hn];exact Wz8 _)])
  unfold z89 at au ak;clear a6 Y M;go_wp2_with (first
   | (refine wpList_load_mid rfl 116 (.tmp 20) rfl _ 20 rfl R _ ax.out underlying116 rfl ac.out ?_;go_frame)
   | (refine z8 rfl _ (yy 116 rfl (ak.out _)) ?_;go_frame))
  go_loopg [6,32] (n+1) (fun q sv iv wr=>∃ (i:Nat) (u:Value),iv=.int .i64 i/\u=sv/\q=(n+1)-i/\i<=(n+1)/\Hid (Bx zJ 68 146 L wr (r+1) u (⟨wR,z,e.new,[],zL⟩ :: (l.take i).map fun x=>lg1 x e)));case atStart=>exact⟨0,_,rfl,rfl,rfl,Nat.zero_le _,a8⟩
  obtain⟨i,u,rfl,hu,hq,be,HB⟩:=hrel;subst hu;have J:Below r w wr:=aA.out.trans (HB.out.below.mono (by omega));have aE:Hid (wr.heap[r]? = some (.cells E.toArray 133)):=hid ((HB.out.below.block r (by omega)).trans aH.out);by_cases bf:i<(n+1);rotate_left
  ·have ah:¬ (i:Int)<((n+1):Int):=(by omega);have aO:i=(n+1):=(by omega);have HF:Hid (BY l e w (.returned u) wr):=hid ⟨u,rfl,⟨by rw[HR.out];exact J,?_,by rw[HR.out];have:=J.size;have:=HR.out;omega⟩⟩
   ·go_wp2;exact bodyPost_ret (results_tmp results48 _ _ _) rfl HF.out
   have:=HB.out.own;rw[aO,O.out] at this;exact qv this (by rw[HR.out];omega)
  have ah:(i:Int)<((n+1):Int):=by omega
  obtain⟨_,_,ae,_,e3⟩:=(ao.out wr J).at_ (by rw[HN.out];omega);cases ae
  obtain⟨x,hx⟩:∃ x,l.getD i []=x:=⟨_,rfl⟩;have ag:wr.cell? ⟨b,off+i,none⟩=some (sV x):=by
   have:=e3 i (by rw[HN.out];omega) 0 _ rfl;rw[hx] at this;simpa using this
  have aj:x.length<=60:=by rw[<-hx];exact aw.out _ (zQ l i [] (by rw[HN.out];omega))
  have aI:Hid (⟨wR,z,e.new,[],zL⟩ :: (l.take (i+1)).map (fun x=>lg1 x e)=(⟨wR,z,e.new,[],zL⟩ :: (l.take i).map fun x=>lg1 x e)++[lg1 x e]):=hid (by
   rw[aJ.out i (by omega),hx];simp)
  obtain⟨K,D⟩:∃ G,zJ (lg1 x e)=G:=⟨_,rfl⟩;have I:Hid (vV (lg1 x e)):=hid (Xu aj am.out);have ad:K.length=68:=by rw[<-D];exact qx I.out
  obtain⟨X,HX⟩:=nm_ (⟨x.toArray⟩:ByteArray);have aC:Hid (∀ W:World,(Instr.build 146 #[(0,.string ⟨#[108,111,103]⟩),(1,.string X),(4,.agg E.toArray)]).run prog W=.ok (.agg K.toArray) W):=fun W=>by rw[<-D,<-HX.out,<-aV.out];exact bdE3 _ _ e am.out W
  have aD:Hid (∀ W:World,(Instr.buildSlice 126 1 #[(0,.agg K.toArray)]).run prog W=.ok (.slice (some ⟨W.heap.size,0,none⟩) 1 1) (W.alloc (.cells K.toArray 146))):=fun W=>by rw[<-D];exact j4 _ I.out W
  have aG:Hid (∀ W:World,Px zJ 68 dS (W.alloc (.cells K.toArray 146)) (some ⟨W.heap.size,0,none⟩) 1 [lg1 x e]):=fun W=>by
   have:=x5 (enc:=zJ) (d:=dS) W (lg1 x e) 146;rw[qx I.out,D] at this;exact this
  have a7:Hid (Bx zJ 68 146 L (wr.alloc (.cells K.toArray 146)) (r+1) u (⟨wR,z,e.new,[],zL⟩ :: (l.take i).map fun x=>lg1 x e)):=hid (HB.out.alloc _);have aF:Hid ((⟨wR,z,e.new,[],zL⟩ :: (l.take i).map fun x=>lg1 x e).length + [lg1 x e].length<=1000000000):=hid (by simp;omega);unfold sV at ag;rw[HX.out] at ag;clear hx D ad e3;go_wp2_with (first
   | (refine zX rfl 133 (.tmp 3) rfl r E.toArray 133 (0,0) _ rfl aE.out underlying133 rfl av.out ?_;go_frame)
   | (refine z8 rfl (.agg K.toArray) (Zu 146 0 1 4 (.const (.string ⟨#[108,111,103]⟩)) (.tmp 37) (.tmp 38) rfl (.string ⟨#[108,111,103]⟩) (.string X) (.agg E.toArray) _ rfl rfl rfl (aC.out _)) ?_;go_frame)
   | (refine z8 rfl _ (qJ 126 (.tmp 39) rfl (.agg K.toArray) _ rfl (aD.out _)) ?_;go_frame)
   | (at_builtin;refine zy (enc:=zJ) (k:=68) (d:=dS) rfl _ _ 126 146 Xy kK z143 (by decide) (by decide) yk rfl (r+1) u (⟨wR,z,e.new,[],zL⟩ :: (l.take i).map fun x=>lg1 x e) rfl a7.out (some ⟨wr.heap.size,0,none⟩) 1 [lg1 x e] rfl (aG.out wr) (fun z hz=>by rw[Wqk.1 hz];exact qx I.out) aF.out ?_;intro v3 w3 V aN aQ;rw[<-aI.out] at V;have aB:=hid V;clear V aN aQ))
  go_roundg ((n+1)-(i+1));case measure=>omega
  case rel=>exact⟨i+1,_,by go_num,rfl,rfl,by omega,aB⟩
 rw[decide_eq_true Y] at au;obtain⟨u2,Q⟩:=nm_ (u1.setCell ⟨r+1,0,none⟩ (.string ⟨#[100,114,111,112]⟩));have aP:u2.heap[r+1]? = some (.cells (zJ ⟨wD,z,zZ,[],zL⟩).toArray 146):=by
  rw[<-Q.out,zV a6,<-M,Y];rfl
 have b9:u1.cell? ⟨r+1,0,none⟩=some (sV wR):=by rw[cell_of_row _ _ 0 _ _ _ a6,<-M];rfl
 have bj:u1.frozen? ⟨r+1,0,none⟩=false:=by simp[World.frozen?,a6]
 have aZ:Below (r+1) L u2:=by
  refine⟨by rw[<-Q.out];exact A.os,by rw[<-Q.out];exact A.tape,by rw[<-Q.out];exact A.output,by rw[<-Q.out];simp[World.setCell];exact A.size,fun k hk=>?_⟩;rw[<-Q.out,Below.heap_setCell _ _ _ k (show k ≠ r+1 by omega)];exact A.block k hk
 have a8:Hid (Bx zJ 68 146 L u2 (r+1) (.slice (some ⟨r+1,0,none⟩) 1 1) (⟨wD,z,zZ,[],zL⟩ :: (l.dropLast.take 0).map fun x=>lg1 x e)):=hid ⟨aZ,by
  simp only[Wu1,WzV,WyV,Wzk,Wxy,Wxw];exact I6 aP (qx ⟨yz.1,yz,az,by simp⟩) (Wz8 _),by have:=z7 aP;omega⟩
 have aU:Hid (l.dropLast.length=n):=hid (by rw[List.length_dropLast,hn];rfl);have aJ:Hid (∀ i,i<n->l.dropLast.take (i+1)=l.dropLast.take i++[l.getD i []]):=fun i hi=>by
  rw[qk [] l.dropLast i (by rw[aU.out];exact hi)];congr 2;rw[List.getD_eq_getElem?_getD,List.getD_eq_getElem?_getD,List.getElem?_dropLast,if_pos (by rw[hn];omega)]
 have O:Hid ((⟨wD,z,zZ,[],zL⟩:Sp) :: (l.dropLast.take n).map (fun x=>lg1 x e)=chg l e):=hid (by
  unfold chg;rw[if_pos Y,hz,Wq0 (by rw[aU.out];exact Wz8 _)])
 have bm:∀ W:World,(Instr.slice 98 (.slice (some ⟨b,off,none⟩) (n+1) c) none (some (.int .i64 n)) none).run prog W=.ok (.slice (some ⟨b,off,none⟩) n c) W:=fun W=>by
  have bi:n<=c:=by have:=(ao.out w (Below.refl _ _)).capl;omega
  go_simp
 unfold sV wR at b9;unfold z89 at au ak;clear a6 aP Y M;go_wp2_with (first
  | (refine wpList_load_mid rfl 116 (.tmp 20) rfl _ 20 rfl R _ ax.out underlying116 rfl ac.out ?_;go_frame)
  | (refine z8 rfl _ (yy 116 rfl (ak.out _)) ?_;go_frame))
 rw[Q.out];go_loopg [6,32] n (fun q sv iv wr=>∃ (i:Nat) (u:Value),iv=.int .i64 i/\u=sv/\q=n-i/\i<=n/\Hid (Bx zJ 68 146 L wr (r+1) u (⟨wD,z,zZ,[],zL⟩ :: (l.dropLast.take i).map fun x=>lg1 x e)));case atStart=>exact⟨0,_,rfl,rfl,rfl,Nat.zero_le _,a8⟩
 case round =>
 obtain⟨i,u,rfl,hu,hq,be,HB⟩:=hrel;subst hu;have J:Below r w wr:=aA.out.trans (HB.out.below.mono (by omega));have aE:Hid (wr.heap[r]? = some (.cells E.toArray 133)):=hid ((HB.out.below.block r (by omega)).trans aH.out);by_cases bf:i<n;rotate_left
 ·have ah:¬ (i:Int)<(n:Int):=by omega
  have aO:i=n:=by omega
  have HF:Hid (BY l e w (.returned u) wr):=hid ⟨u,rfl,⟨by rw[HR.out];exact J,?_,by rw[HR.out];have:=J.size;have:=HR.out;omega⟩⟩
  ·go_wp2;exact bodyPost_ret (results_tmp results48 _ _ _) rfl HF.out
  have:=HB.out.own;rw[aO,O.out] at this;exact qv this (by rw[HR.out];omega)
 have ah:(i:Int)<(n:Int):=by omega
 obtain⟨_,_,ae,_,e3⟩:=(ao.out wr J).at_ (by rw[HN.out];omega);cases ae
 obtain⟨x,hx⟩:∃ x,l.getD i []=x:=⟨_,rfl⟩;have ag:wr.cell? ⟨b,off+i,none⟩=some (sV x):=by
  have:=e3 i (by rw[HN.out];omega) 0 _ rfl;rw[hx] at this;simpa using this
 have aj:x.length<=60:=by rw[<-hx];exact aw.out _ (zQ l i [] (by rw[HN.out];omega))
 have aI:Hid (⟨wD,z,zZ,[],zL⟩ :: (l.dropLast.take (i+1)).map (fun x=>lg1 x e)=(⟨wD,z,zZ,[],zL⟩ :: (l.dropLast.take i).map fun x=>lg1 x e)++[lg1 x e]):=hid (by
  rw[aJ.out i (by omega),hx];simp)
 obtain⟨K,D⟩:∃ G,zJ (lg1 x e)=G:=⟨_,rfl⟩;have I:Hid (vV (lg1 x e)):=hid (Xu aj am.out);have ad:K.length=68:=by rw[<-D];exact qx I.out
 obtain⟨X,HX⟩:=nm_ (⟨x.toArray⟩:ByteArray);have aC:Hid (∀ W:World,(Instr.build 146 #[(0,.string ⟨#[108,111,103]⟩),(1,.string X),(4,.agg E.toArray)]).run prog W=.ok (.agg K.toArray) W):=fun W=>by rw[<-D,<-HX.out,<-aV.out];exact bdE3 _ _ e am.out W
 have aD:Hid (∀ W:World,(Instr.buildSlice 126 1 #[(0,.agg K.toArray)]).run prog W=.ok (.slice (some ⟨W.heap.size,0,none⟩) 1 1) (W.alloc (.cells K.toArray 146))):=fun W=>by rw[<-D];exact j4 _ I.out W
 have aG:Hid (∀ W:World,Px zJ 68 dS (W.alloc (.cells K.toArray 146)) (some ⟨W.heap.size,0,none⟩) 1 [lg1 x e]):=fun W=>by
  have:=x5 (enc:=zJ) (d:=dS) W (lg1 x e) 146;rw[qx I.out,D] at this;exact this
 have a7:Hid (Bx zJ 68 146 L (wr.alloc (.cells K.toArray 146)) (r+1) u (⟨wD,z,zZ,[],zL⟩ :: (l.dropLast.take i).map fun x=>lg1 x e)):=hid (HB.out.alloc _);have aF:Hid ((⟨wD,z,zZ,[],zL⟩ :: (l.dropLast.take i).map fun x=>lg1 x e).length + [lg1 x e].length<=1000000000):=hid (by simp;omega);unfold sV at ag;rw[HX.out] at ag;clear hx D ad e3;go_wp2_with (first
  | (refine zX rfl 133 (.tmp 3) rfl r E.toArray 133 (0,0) _ rfl aE.out underlying133 rfl av.out ?_;go_frame)
  | (refine z8 rfl (.agg K.toArray) (Zu 146 0 1 4 (.const (.string ⟨#[108,111,103]⟩)) (.tmp 37) (.tmp 38) rfl (.string ⟨#[108,111,103]⟩) (.string X) (.agg E.toArray) _ rfl rfl rfl (aC.out _)) ?_;go_frame)
  | (refine z8 rfl _ (qJ 126 (.tmp 39) rfl (.agg K.toArray) _ rfl (aD.out _)) ?_;go_frame)
  | (at_builtin;refine zy (enc:=zJ) (k:=68) (d:=dS) rfl _ _ 126 146 Xy kK z143 (by decide) (by decide) yk rfl (r+1) u (⟨wD,z,zZ,[],zL⟩ :: (l.dropLast.take i).map fun x=>lg1 x e) rfl a7.out (some ⟨wr.heap.size,0,none⟩) 1 [lg1 x e] rfl (aG.out wr) (fun z hz=>by rw[Wqk.1 hz];exact qx I.out) aF.out ?_;intro v3 w3 V aN aQ;rw[<-aI.out] at V;have aB:=hid V;clear V aN aQ))
 go_roundg (n-(i+1));case measure=>omega
 case rel=>exact⟨i+1,_,by go_num,rfl,rfl,by omega,aB⟩
end Go.Proofs.YtdnphaganajejaaGreatDoor.K
