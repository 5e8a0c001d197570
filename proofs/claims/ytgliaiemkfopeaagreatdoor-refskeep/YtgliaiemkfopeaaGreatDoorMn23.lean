import Derived.Test.YtgliaiemkfopeaaGreatDoorMn21
import Derived.Test.YtgliaiemkfopeaaGreatDoorMn22
set_option linter.unusedSimpArgs false
set_option linter.unusedVariables false
set_option maxRecDepth 20000
set_option maxHeartbeats 4000000
namespace Go.Proofs.YtgliaiemkfopeaaGreatDoor.K
open Go.RowKit
theorem Tryz.results46:Tryz.f46.results=#[.tmp 4]:=by kernel_rfl
def chg (l:List Str) (e:Le):List Sp:=if e.new=zQ then ⟨wD,l.getD (l.length-1) [],zQ,[],zL⟩ :: l.dropLast.map (fun x=>lg1 x e) else ⟨wR,l.getD (l.length-1) [],e.new,[],zL⟩ :: l.map (fun x=>lg1 x e)
theorem own_cur {W:World} {k B n:Nat} {e:TypeId} {cur:List Value} (h:W.heap[k]? = some (.cells cur.toArray e (0,0))) (hl:cur.length=n) (hB:B<=k):W.ownsRow B e n (.slice (some ⟨k,0,none⟩) 1 1) 1 cur :=
 ⟨by rw[hl,Nat.one_mul],.inr ⟨k,1,cur.toArray,rfl,hB,h,Nat.le_refl _,by unfold maxLen;omega,by simp[hl],by rw[Nat.one_mul,<-hl];simp⟩⟩
def Post46 (l:List Str) (e:Le) (w:World) (en:Ending) (w':World):Prop := ∃ v,en=.returned v/\Bx zX 68 143 w w' w.heap.size v (chg l e)
structure Qh (b off c n r:Nat) (x:ByteArray) (R:List Value) (W:World):Prop where
 c0:W.cell? ⟨b,off+n,none⟩=some (.string x)
 r20:W.rangeAt r 20 R
theorem change_any (a:Option Addr) (c:Nat) (l:List Str) (e:Le) (w:World) (hP:Px eT 1 [] w a c l) (h0:0<l.length) (h9:l.length<=1000) (hl60:∀ x ∈ l,x.length<=60) (he:uy e) :
  Calls Tryz.prog 46 #[.slice a l.length c,.agg (qv e).toArray] w (Post46 l e w):=by
 obtain⟨r,HR⟩:=nm_ w.heap.size
 obtain⟨n,hn⟩:∃ n,l.length=n+1:=⟨l.length-1,by omega⟩
 have HN:=hid hn
 have hn9:n<=999:=by omega
 have hnlt:(n:Int)<(n:Int)+1:=by omega
 obtain⟨E,hE⟩:∃ E,qv e=E:=⟨_,rfl⟩
 have HE0:=hid hE
 have hE45:E.length=45:=by rw[<-hE];exact yx he
 have HI45:Hid ((Tryz.prog.info? 129).map (·.size)=some E.toArray.size):=hid (by rw[List.size_toArray,hE45];kernel_rfl)
 obtain⟨W1,HW1⟩:=nm_ (w.alloc (.cells E.toArray 129))
 have HB1:Hid (Below r w W1):=hid (by rw[<-HW1.out,<-HR.out];exact(Below.refl _ w).alloc (Nat.le_refl _) _)
 have hs1:W1.heap.size=r+1:=by rw[<-HW1.out,<-HR.out];simp
 have HR0:Hid (W1.heap[r]? = some (.cells E.toArray 129)):=hid (by rw[<-HW1.out,<-HR.out];exact heap_alloc_new _ _)
 have HPW:Hid (∀ W,Below r w W->Px eT 1 [] W a c l):=fun W hW=>hP.below (by rw[HR.out];exact hW)
 obtain⟨b,off,hae,_,_⟩:=hP.at_ h0
 subst hae
 obtain⟨z,hz⟩:∃ z,l.getD (l.length-1) []=z:=⟨_,rfl⟩
 have hz60:z.length<=60:=by rw[<-hz];exact hl60 _ (zK l _ [] (by omega))
 obtain⟨Z,HZ⟩:=nm_ (⟨z.toArray⟩:ByteArray)
 obtain⟨R,hR⟩:∃ R,row .u8 e.new=R:=⟨_,rfl⟩
 have hR20:R.length=20:=by rw[<-hR,zw];exact he.2.1
 have HI20:Hid ((Tryz.prog.info? 89).map (·.size)=some R.length):=hid (by rw[hR20];kernel_rfl)
 have HQ:Hid (∀ W,Below (r+1) W1 W->Qh b off c n r Z R W):=fun W hW=>by
  have hbw:Below r w W:=HB1.out.trans (hW.mono (by omega))
  refine⟨?_,?_⟩
  ·obtain⟨_,_,e1,_,e3⟩:=(HPW.out W hbw).at_ h0
   cases e1
   have:=e3 n (by omega) 0 _ rfl
   rw[show l.getD n []=z by rw[<-hz,hn];rfl] at this
   rw[<-HZ.out]
   simpa [sV] using this
  ·intro j v hv
   have h1:=(hW.block r (by omega)).trans HR0.out
   have h2:=zy h1 (20+j) v (by
    rw[<-hE]
    unfold qv
    rw[List.getElem?_append_right (by rw[zw,he.1.1];omega),zw,he.1.1,show 20+j-20=j by omega,List.getElem?_append_left (by rw[hR];exact(List.getElem?_eq_some_iff.1 hv).1),hR]
    exact hv)
   rw[Nat.zero_add] at h2
   exact h2
 obtain⟨FL,hFL⟩:∃ F,zX ⟨wR,z,e.new,[],zL⟩=F:=⟨_,rfl⟩
 have hfo:vk ⟨wR,z,e.new,[],zL⟩:=⟨he.2,qK,hz60,by simp⟩
 have HF68:Hid (FL.length=68):=hid (by rw[<-hFL];exact zJ hfo)
 have HBD0:Hid (∀ W:World,(Instr.build 143 #[(0,.string ⟨#[114,101,102]⟩),(1,.string Z),(2,.agg R.toArray)]).run Tryz.prog W=.ok (.agg FL.toArray) W):=fun W=>by rw[<-hFL,<-HZ.out,<-hR];exact bdS3 _ _ e.new he.2.1 W
 have HBS0:Hid (∀ W:World,(Instr.buildSlice 123 1 #[(0,.agg FL.toArray)]).run Tryz.prog W=.ok (.slice (some ⟨W.heap.size,0,none⟩) 1 1) (W.alloc (.cells FL.toArray 143))):=fun W=>by rw[<-hFL];exact vj _ hfo W
 have HLE:=hid he
 have HL60:=hid hl60
 rw[hn,hE]
 clear hP
 go_enter Tryz.func46,Tryz.ntmps46
 go_wp2
 rw[HW1.out,HR.out]
 have hd0:Below (r+1) W1 W1.drew:=by rw[<-hs1];exact zv _ _ 1
 have hS0:=HQ.out _ hd0
 refine wp_region_held_drew (S:=Qh b off c n r Z R) (by kernel_rfl) hS0 (fun hHeld=>?_)
 have hdz:W1.drew.heap.size=W1.heap.size:=rfl
 generalize W1.drew=u0 at hHeld hd0 hS0 hdz ⊢
 iterate 5
  refine qq (v:=?_) hHeld ?_ ?_
  rotate_left
  ·rintro w' ⟨c0,c1⟩;go_simp;rfl
  try simp only[Act.put,sL]
 refine takeY (i:=5) (v:=.agg R.toArray) hHeld (fun w' hw'=>qx 89 (.tmp 16) rfl r 20 rfl R _ hw'.r20 Tryz.underlying89 rfl HI20.out) ?_
 try simp only[Act.put,sL]
 refine takeY (i:=6) (v:=.agg FL.toArray) hHeld (fun w' hw'=>vx 143 0 1 2 (.const (.string ⟨#[114,101,102]⟩)) (.tmp 15) (.tmp 17) rfl (.string ⟨#[114,101,102]⟩) (.string Z) (.agg R.toArray) _ rfl rfl rfl (HBD0.out _)) ?_
 try simp only[Act.put,sL]
 have hbu1:Below (r+1) W1 (u0.alloc (.cells FL.toArray 143)):=hd0.alloc (by omega) _
 refine readyE 7 (.slice (some ⟨u0.heap.size,0,none⟩) 1 1) (zY 123 (.tmp 18) rfl (.agg FL.toArray) _ rfl (HBS0.out u0)) (HQ.out _ hbu1) (fun hHeld=>?_)
 try simp only[Act.put,sL]
 refine qq (v:=?_) hHeld ?_ ?_
 rotate_left
 ·rintro w' ⟨c0,c1⟩;go_simp;rfl
 try simp only[Act.put,sL]
 refine wpAnyH_done (by kernel_rfl) ?_ _
 have hu0s:u0.heap.size=r+1:=by rw[hdz,hs1]
 obtain⟨u1,HU1⟩:=nm_ (u0.alloc (.cells FL.toArray 143))
 have hk1:u1.heap[r+1]? = some (.cells FL.toArray 143):=by rw[<-HU1.out,<-hu0s];exact heap_alloc_new _ _
 have hsz1:u1.heap.size=r+1+1:=by rw[<-HU1.out];simp[hu0s]
 rw[HU1.out] at hbu1 ⊢
 rw[hu0s]
 have HR20:Hid (u1.rangeAt r 20 R):=hid (HQ.out _ hbu1).r20
 have heq:∀ W:World,(Op.equalIn 10000 89 (.agg R.toArray) (.agg z89)).run Tryz.prog W=.ok (decide (e.new=zQ)) W:=fun W=>by rw[<-hR,<-z89_e];exact eqId 89 Qx _ _ he.2.1 rfl W
 have hbz:∀ W:World,(Instr.build 89 #[]).run Tryz.prog W=.ok (.agg z89) W:=fun W=>by rw[build89,z89_e]
 have HBZ:=hid hbz
 clear hHeld hS0 hd0 hdz hbz
 by_cases hnz:e.new=zQ
 ·rw[decide_eq_true hnz] at heq
  obtain⟨u2,HU2⟩:=nm_ (u1.setCell ⟨r+1,0,none⟩ (.string ⟨#[100,114,111,112]⟩))
  have hk2:u2.heap[r+1]? = some (.cells (zX ⟨wD,z,zQ,[],zL⟩).toArray 143):=by
   rw[<-HU2.out,qy hk1,<-hFL,hnz]
   rfl
  have hc1:u1.cell? ⟨r+1,0,none⟩=some (sV wR):=by rw[cell_of_row _ _ 0 _ _ _ hk1,<-hFL];rfl
  have hf1:u1.frozen? ⟨r+1,0,none⟩=false:=by simp[World.frozen?,hk1]
  have hbu2:Below (r+1) W1 u2:=by
   refine⟨by rw[<-HU2.out];exact hbu1.os,by rw[<-HU2.out];exact hbu1.tape,by rw[<-HU2.out];exact hbu1.output,by rw[<-HU2.out];simp[World.setCell];exact hbu1.size,fun k hk=>?_⟩
   rw[<-HU2.out,Below.heap_setCell _ _ _ k (show k ≠ r+1 by omega)]
   exact hbu1.block k hk
  have HBX0:Hid (Bx zX 68 143 W1 u2 (r+1) (.slice (some ⟨r+1,0,none⟩) 1 1) (⟨wD,z,zQ,[],zL⟩ :: (l.dropLast.take 0).map fun x=>lg1 x e)):=hid ⟨hbu2,by
   simp only[List.take_zero,List.map_nil,List.length_singleton,List.flatMap_cons,List.flatMap_nil,List.append_nil]
   exact own_cur hk2 (zJ ⟨qK.1,qK,hz60,by simp⟩) (Nat.le_refl _),by have:=z7 hk2;omega⟩
  have HDL:Hid (l.dropLast.length=n):=hid (by rw[List.length_dropLast,hn];rfl)
  have HTK:Hid (∀ i,i<n->l.dropLast.take (i+1)=l.dropLast.take i++[l.getD i []]):=fun i hi=>by
   rw[qj [] l.dropLast i (by rw[HDL.out];exact hi)]
   congr 2
   rw[List.getD_eq_getElem?_getD,List.getD_eq_getElem?_getD,List.getElem?_dropLast,if_pos (by rw[hn];omega)]
  have HFULL:Hid ((⟨wD,z,zQ,[],zL⟩:Sp) :: (l.dropLast.take n).map (fun x=>lg1 x e)=chg l e):=hid (by
   unfold chg
   rw[if_pos hnz,hz,List.take_of_length_le (by rw[HDL.out];exact Nat.le_refl _)])
  have hsl:∀ W:World,(Instr.slice 64 (.slice (some ⟨b,off,none⟩) (n+1) c) none (some (.int .i64 n)) none).run Tryz.prog W=.ok (.slice (some ⟨b,off,none⟩) n c) W:=fun W=>by
   have hcc:n<=c:=by have:=(HPW.out w (Below.refl _ _)).capl;omega
   go_simp
  unfold sV wR at hc1
  unfold z89 at heq HBZ
  clear hk1 hk2 hnz hFL
  go_wp2_with (first
   | (refine wpList_load_mid rfl 89 (.tmp 20) rfl _ 20 rfl R _ HR20.out Tryz.underlying89 rfl HI20.out ?_;go_frame)
   | (refine z8 rfl _ (yk 89 rfl (HBZ.out _)) ?_;go_frame))
  rw[HU2.out]
  go_loopg [6,32] n (fun q sv iv wr=>∃ (i:Nat) (u:Value),iv=.int .i64 i/\u=sv/\q=n-i/\i<=n/\Hid (Bx zX 68 143 W1 wr (r+1) u (⟨wD,z,zQ,[],zL⟩ :: (l.dropLast.take i).map fun x=>lg1 x e)))
  case atStart=>exact⟨0,_,rfl,rfl,rfl,Nat.zero_le _,HBX0⟩
  case round =>
   obtain⟨i,u,rfl,hu,hq,hin,HB⟩:=hrel
   subst hu
   have hbw:Below r w wr:=HB1.out.trans (HB.out.below.mono (by omega))
   have HE1:Hid (wr.heap[r]? = some (.cells E.toArray 129)):=hid ((HB.out.below.block r (by omega)).trans HR0.out)
   by_cases hlt:i<n
   ·have hlti:(i:Int)<(n:Int):=by omega
    obtain⟨_,_,hae,_,e3⟩:=(HPW.out wr hbw).at_ (by rw[HN.out];omega)
    cases hae
    obtain⟨x,hx⟩:∃ x,l.getD i []=x:=⟨_,rfl⟩
    have hcx:wr.cell? ⟨b,off+i,none⟩=some (sV x):=by
     have:=e3 i (by rw[HN.out];omega) 0 _ rfl
     rw[hx] at this
     simpa using this
    have hx60:x.length<=60:=by rw[<-hx];exact HL60.out _ (zK l i [] (by rw[HN.out];omega))
    have HSN:Hid (⟨wD,z,zQ,[],zL⟩ :: (l.dropLast.take (i+1)).map (fun x=>lg1 x e)=(⟨wD,z,zQ,[],zL⟩ :: (l.dropLast.take i).map fun x=>lg1 x e)++[lg1 x e]):=hid (by
     rw[HTK.out i (by omega),hx]
     simp)
    obtain⟨GL,hGL⟩:∃ G,zX (lg1 x e)=G:=⟨_,rfl⟩
    have HGO:Hid (vk (lg1 x e)):=hid (Qk hx60 HLE.out)
    have hG68:GL.length=68:=by rw[<-hGL];exact zJ HGO.out
    obtain⟨X,HX⟩:=nm_ (⟨x.toArray⟩:ByteArray)
    have HBD:Hid (∀ W:World,(Instr.build 143 #[(0,.string ⟨#[108,111,103]⟩),(1,.string X),(4,.agg E.toArray)]).run Tryz.prog W=.ok (.agg GL.toArray) W):=fun W=>by rw[<-hGL,<-HX.out,<-HE0.out];exact bdE3 _ _ e HLE.out W
    have HBS:Hid (∀ W:World,(Instr.buildSlice 123 1 #[(0,.agg GL.toArray)]).run Tryz.prog W=.ok (.slice (some ⟨W.heap.size,0,none⟩) 1 1) (W.alloc (.cells GL.toArray 143))):=fun W=>by rw[<-hGL];exact vj _ HGO.out W
    have HPO:Hid (∀ W:World,Px zX 68 dS (W.alloc (.cells GL.toArray 143)) (some ⟨W.heap.size,0,none⟩) 1 [lg1 x e]):=fun W=>by
     have:=yu (enc:=zX) (d:=dS) W (lg1 x e) 143
     rw[zJ HGO.out,hGL] at this
     exact this
    have HB10:Hid (Bx zX 68 143 W1 (wr.alloc (.cells GL.toArray 143)) (r+1) u (⟨wD,z,zQ,[],zL⟩ :: (l.dropLast.take i).map fun x=>lg1 x e)):=hid (HB.out.alloc _)
    have HLN:Hid ((⟨wD,z,zQ,[],zL⟩ :: (l.dropLast.take i).map fun x=>lg1 x e).length + [lg1 x e].length<=1000000000):=hid (by simp;omega)
    unfold sV at hcx
    rw[HX.out] at hcx
    clear hx hGL hG68 e3
    go_wp2_with (first
     | (refine zu rfl 129 (.tmp 3) rfl r E.toArray 129 (0,0) _ rfl HE1.out Tryz.underlying129 rfl HI45.out ?_;go_frame)
     | (refine z8 rfl (.agg GL.toArray) (vx 143 0 1 4 (.const (.string ⟨#[108,111,103]⟩)) (.tmp 37) (.tmp 38) rfl (.string ⟨#[108,111,103]⟩) (.string X) (.agg E.toArray) _ rfl rfl rfl (HBD.out _)) ?_;go_frame)
     | (refine z8 rfl _ (zY 123 (.tmp 39) rfl (.agg GL.toArray) _ rfl (HBS.out _)) ?_;go_frame)
     | (at_builtin;refine zj (enc:=zX) (k:=68) (d:=dS) rfl _ _ 123 143 Zu j4 z143 (by decide) (by decide) qV rfl (r+1) u (⟨wD,z,zQ,[],zL⟩ :: (l.dropLast.take i).map fun x=>lg1 x e) rfl HB10.out (some ⟨wr.heap.size,0,none⟩) 1 [lg1 x e] rfl (HPO.out wr) (fun z hz=>by rw[List.mem_singleton.1 hz];exact zJ HGO.out) HLN.out ?_;intro v3 w3 hb3 hg3 hm3;rw[<-HSN.out] at hb3;have HB3:=hid hb3;clear hb3 hg3 hm3))
    go_roundg (n-(i+1))
    case measure=>omega
    case rel=>exact⟨i+1,_,by go_num,rfl,rfl,by omega,HB3⟩
   ·have hlti:¬ (i:Int)<(n:Int):=by omega
    have hiN:i=n:=by omega
    have HF:Hid (Post46 l e w (.returned u) wr):=hid ⟨u,rfl,⟨by rw[HR.out];exact hbw,?_,by rw[HR.out];have:=hbw.size;have:=HR.out;omega⟩⟩
    ·go_wp2
     exact bodyPost_ret (results_tmp Tryz.results46 _ _ _) rfl HF.out
    ·have:=HB.out.own
     rw[hiN,HFULL.out] at this
     exact qk this (by rw[HR.out];omega)
 ·rw[decide_eq_false hnz] at heq
  have HBX0:Hid (Bx zX 68 143 W1 u1 (r+1) (.slice (some ⟨r+1,0,none⟩) 1 1) (⟨wR,z,e.new,[],zL⟩ :: (l.take 0).map fun x=>lg1 x e)):=hid ⟨hbu1,by
   simp only[List.take_zero,List.map_nil,List.length_singleton,List.flatMap_cons,List.flatMap_nil,List.append_nil]
   rw[hFL]
   exact own_cur hk1 HF68.out (Nat.le_refl _),by omega⟩
  have HTK:Hid (∀ i,i<n+1->l.take (i+1)=l.take i++[l.getD i []]):=fun i hi=>qj [] l i (by rw[hn];exact hi)
  have HFULL:Hid ((⟨wR,z,e.new,[],zL⟩:Sp) :: (l.take (n+1)).map (fun x=>lg1 x e)=chg l e):=hid (by
   unfold chg
   rw[if_neg hnz,hz,List.take_of_length_le (by rw[hn];exact Nat.le_refl _)])
  unfold z89 at heq HBZ
  clear hk1 hnz hFL
  go_wp2_with (first
   | (refine wpList_load_mid rfl 89 (.tmp 20) rfl _ 20 rfl R _ HR20.out Tryz.underlying89 rfl HI20.out ?_;go_frame)
   | (refine z8 rfl _ (yk 89 rfl (HBZ.out _)) ?_;go_frame))
  go_loopg [6,32] (n+1) (fun q sv iv wr=>∃ (i:Nat) (u:Value),iv=.int .i64 i/\u=sv/\q=(n+1)-i/\i<=(n+1)/\Hid (Bx zX 68 143 W1 wr (r+1) u (⟨wR,z,e.new,[],zL⟩ :: (l.take i).map fun x=>lg1 x e)))
  case atStart=>exact⟨0,_,rfl,rfl,rfl,Nat.zero_le _,HBX0⟩
  case round =>
   obtain⟨i,u,rfl,hu,hq,hin,HB⟩:=hrel
   subst hu
   have hbw:Below r w wr:=HB1.out.trans (HB.out.below.mono (by omega))
   have HE1:Hid (wr.heap[r]? = some (.cells E.toArray 129)):=hid ((HB.out.below.block r (by omega)).trans HR0.out)
   by_cases hlt:i<(n+1)
   ·have hlti:(i:Int)<((n+1):Int):=by omega
    obtain⟨_,_,hae,_,e3⟩:=(HPW.out wr hbw).at_ (by rw[HN.out];omega)
    cases hae
    obtain⟨x,hx⟩:∃ x,l.getD i []=x:=⟨_,rfl⟩
    have hcx:wr.cell? ⟨b,off+i,none⟩=some (sV x):=by
     have:=e3 i (by rw[HN.out];omega) 0 _ rfl
     rw[hx] at this
     simpa using this
    have hx60:x.length<=60:=by rw[<-hx];exact HL60.out _ (zK l i [] (by rw[HN.out];omega))
    have HSN:Hid (⟨wR,z,e.new,[],zL⟩ :: (l.take (i+1)).map (fun x=>lg1 x e)=(⟨wR,z,e.new,[],zL⟩ :: (l.take i).map fun x=>lg1 x e)++[lg1 x e]):=hid (by
     rw[HTK.out i (by omega),hx]
     simp)
    obtain⟨GL,hGL⟩:∃ G,zX (lg1 x e)=G:=⟨_,rfl⟩
    have HGO:Hid (vk (lg1 x e)):=hid (Qk hx60 HLE.out)
    have hG68:GL.length=68:=by rw[<-hGL];exact zJ HGO.out
    obtain⟨X,HX⟩:=nm_ (⟨x.toArray⟩:ByteArray)
    have HBD:Hid (∀ W:World,(Instr.build 143 #[(0,.string ⟨#[108,111,103]⟩),(1,.string X),(4,.agg E.toArray)]).run Tryz.prog W=.ok (.agg GL.toArray) W):=fun W=>by rw[<-hGL,<-HX.out,<-HE0.out];exact bdE3 _ _ e HLE.out W
    have HBS:Hid (∀ W:World,(Instr.buildSlice 123 1 #[(0,.agg GL.toArray)]).run Tryz.prog W=.ok (.slice (some ⟨W.heap.size,0,none⟩) 1 1) (W.alloc (.cells GL.toArray 143))):=fun W=>by rw[<-hGL];exact vj _ HGO.out W
    have HPO:Hid (∀ W:World,Px zX 68 dS (W.alloc (.cells GL.toArray 143)) (some ⟨W.heap.size,0,none⟩) 1 [lg1 x e]):=fun W=>by
     have:=yu (enc:=zX) (d:=dS) W (lg1 x e) 143
     rw[zJ HGO.out,hGL] at this
     exact this
    have HB10:Hid (Bx zX 68 143 W1 (wr.alloc (.cells GL.toArray 143)) (r+1) u (⟨wR,z,e.new,[],zL⟩ :: (l.take i).map fun x=>lg1 x e)):=hid (HB.out.alloc _)
    have HLN:Hid ((⟨wR,z,e.new,[],zL⟩ :: (l.take i).map fun x=>lg1 x e).length + [lg1 x e].length<=1000000000):=hid (by simp;omega)
    unfold sV at hcx
    rw[HX.out] at hcx
    clear hx hGL hG68 e3
    go_wp2_with (first
     | (refine zu rfl 129 (.tmp 3) rfl r E.toArray 129 (0,0) _ rfl HE1.out Tryz.underlying129 rfl HI45.out ?_;go_frame)
     | (refine z8 rfl (.agg GL.toArray) (vx 143 0 1 4 (.const (.string ⟨#[108,111,103]⟩)) (.tmp 37) (.tmp 38) rfl (.string ⟨#[108,111,103]⟩) (.string X) (.agg E.toArray) _ rfl rfl rfl (HBD.out _)) ?_;go_frame)
     | (refine z8 rfl _ (zY 123 (.tmp 39) rfl (.agg GL.toArray) _ rfl (HBS.out _)) ?_;go_frame)
     | (at_builtin;refine zj (enc:=zX) (k:=68) (d:=dS) rfl _ _ 123 143 Zu j4 z143 (by decide) (by decide) qV rfl (r+1) u (⟨wR,z,e.new,[],zL⟩ :: (l.take i).map fun x=>lg1 x e) rfl HB10.out (some ⟨wr.heap.size,0,none⟩) 1 [lg1 x e] rfl (HPO.out wr) (fun z hz=>by rw[List.mem_singleton.1 hz];exact zJ HGO.out) HLN.out ?_;intro v3 w3 hb3 hg3 hm3;rw[<-HSN.out] at hb3;have HB3:=hid hb3;clear hb3 hg3 hm3))
    go_roundg ((n+1)-(i+1))
    case measure=>omega
    case rel=>exact⟨i+1,_,by go_num,rfl,rfl,by omega,HB3⟩
   ·have hlti:¬ (i:Int)<((n+1):Int):=by omega
    have hiN:i=(n+1):=by omega
    have HF:Hid (Post46 l e w (.returned u) wr):=hid ⟨u,rfl,⟨by rw[HR.out];exact hbw,?_,by rw[HR.out];have:=hbw.size;have:=HR.out;omega⟩⟩
    ·go_wp2
     exact bodyPost_ret (results_tmp Tryz.results46 _ _ _) rfl HF.out
    ·have:=HB.out.own
     rw[hiN,HFULL.out] at this
     exact qk this (by rw[HR.out];omega)
theorem Tryz.results23:Tryz.f23.results=#[.tmp 6]:=by kernel_rfl
theorem Tryz.results25:Tryz.f25.results=#[.tmp 2]:=by kernel_rfl
theorem Tryz.results26:Tryz.f26.results=#[.tmp 6]:=by kernel_rfl
structure Pw (S XE:Nat->Prop) (N D R:Nat) (w:World) (f:Option Str) (t n:Nat) (T:Ts):Prop where
 fd:FD S N w D (f.map nm)
 rf:Rf w R D t f.isSome false
 nS:¬ S R
 lim:∀ i,SrE S R XE i->i<w.heap.size
 tt:Tt (SrE S R XE) w t n T
theorem Pw.below {S XE:Nat->Prop} {N D R:Nat} {w W:World} {f:Option Str} {t n:Nat} {T:Ts} (h:Pw S XE N D R w f t n T) (hb:Below w.heap.size w W):Pw S XE N D R W f t n T :=
 ⟨h.fd.below hb,⟨(hb.block R (z7 h.rf.box)).trans h.rf.box⟩,h.nS,fun i hi=>Nat.lt_of_lt_of_le (h.lim i hi) hb.size,h.tt.below hb⟩
structure Gr (S S':Nat->Prop) (R:Nat) (w w':World):Prop where
 up:∀ i,S i->S' i
 new:∀ i,S' i->S i ∨ w.heap.size<=i
 al:Al (Sr S R) w w'
def Qy (S XE:Nat->Prop) (N D R n:Nat) (fs:Ts->Str->Prop) (m:Rk.Tb Str Kp Le) (w:World) (e:Ending) (w':World):Prop := ∃ S' t' T' f,e=.returned .nilIface/\fs T' f/\Pw S' XE (N+4) D R w' (some f) t' n T'/\aT T'=m/\Gr S S' R w w'
theorem ku {S XE:Nat->Prop} {N D R t' n':Nat} {fs:Ts->Str->Prop} {T':Ts} {w w1:World} {e:Ending} {w':World} (hnS:¬ S R) (hlim:∀ i,SrE S R XE i->i<w.heap.size) (hb:Below w.heap.size w w1) (hT:Tt (SrE S R XE) w1 t' n' T') (h:Wrote S N D R t' (fs T') w1 e w'):Qy S XE N D R n' fs (aT T') w e w':=by
 obtain⟨rfl,⟨f,hf,hfd⟩,hrf,hal⟩:=h
 have hRw:R<w.heap.size:=hlim R (.inl (.inr rfl))
 have hs1:=hb.size
 have hs2:=hal.size
 refine⟨Sx S w1 w',t',T',f,rfl,hf,⟨hfd,hrf,?_,?_,?_⟩,rfl,fun i hi=>.inl hi,fun i hi=>?_,(Al.below hb).trans hal (fun i hi=>.inl hi)⟩
 ·rintro(hs | hs)
  ·exact hnS hs
  ·omega
 ·rintro i (((hi | hi) | hi) | hi)
  ·have:=hlim i (.inl (.inl hi));omega
  ·exact hi.2
  ·rw[hi];omega
  ·have:=hlim i (.inr hi);omega
 ·refine(hT.to (S':=SrE (Sx S w1 w') R XE) ?_).al (hal.mono ?_)
  ·rintro i (((hi | hi) | hi) | hi)
   ·exact .inl (.inl (.inl hi))
   ·exact .inr hi.1
   ·exact .inl (.inl (.inr hi))
   ·exact .inl (.inr hi)
  ·rintro i (hi | hi)
   ·exact .inl (.inl (.inl hi))
   ·exact .inl (.inr hi)
 ·rcases hi with hi | hi
  ·exact .inl hi
  ·exact .inr (by omega)
structure Few (T:Ts):Prop where
 ok:∀ ss,Nms T ss->(∀ s ∈ stN T ss,StL s)/\(wrL (stN T ss)).length<=280000000/\(stN T ss).length<=1000000
def FsA (f:Option Str) (ss:List Sp) (T:Ts) (f':Str):Prop:=match f with
 | none=>Anew T f'
 | some f0=>f'=f0++bkS (wrL ss)
theorem X7 (S XE:Nat->Prop) (N D R:Nat) (w w1:World) (f:Option Str) (t n t' n':Nat) (T T':Ts) (a:Option Addr) (c:Nat) (ss:List Sp) (h:Pw S XE N D R w f t n T) (hb:Below w.heap.size w w1) (hT:Tt (SrE S R XE) w1 t' n' T') (hN:N<=70000) (hn:n'<=100000) (hfl:∀ f0,f=some f0->f0.length<=200000000) (hF:f=none->Few T')
  (hP:Px zX 68 dS w1 a c ss) (hok:∀ s ∈ ss,StL s) (hl:(wrL ss).length<=280000000) (hns:ss.length<=1000000) (ht:Tab w1) (hdb:Db w1) :
  Calls Tryz.prog 50 #[.pointer (some ⟨R,0,none⟩),.slice a ss.length c,.map (some t')] w1 (Qy S XE N D R n' (FsA f ss) (aT T') w):=by
 have h1:=h.below hb
 have hlS:∀ i,S i->i<w1.heap.size:=fun i hi=>h1.lim i (.inl (.inl hi))
 cases f with
 | none=>exact(add_new S N D R t t' n' none T' _ w1 h1.fd h1.rf h1.nS hlS hN (fun z hz=>by cases hz) (hT.to fun i hi=>.inl (.inl hi)) hn (hF rfl).ok ht hdb).mono fun e w' hw=>ku h.nS h.lim hb hT hw
 | some f0=>exact(add_more S N D R t t' f0 a c ss w1 h1.fd h1.rf h1.nS hlS hN (hfl f0 rfl) hP hok hl hns ht hdb).mono fun e w' hw=>ku h.nS h.lim hb hT hw
theorem anew_pw (S XE:Nat->Prop) (N D R:Nat) (w w1:World) (f:Option Str) (t n t' n':Nat) (T T':Ts) (h:Pw S XE N D R w f t n T) (hb:Below w.heap.size w w1) (hT:Tt (SrE S R XE) w1 t' n' T') (hN:N<=70000) (hn:n'<=100000) (hfl:∀ f0,f=some f0->f0.length<=200000000) (hF:Few T') (ht:Tab w1) (hdb:Db w1) :
  Calls Tryz.prog 59 #[.pointer (some ⟨R,0,none⟩),.map (some t')] w1 (Qy S XE N D R n' Anew (aT T') w):=by
 have h1:=h.below hb
 refine(anew2 S N D R t t' n' f.isSome _ T' w1 h1.fd h1.rf h1.nS (fun i hi=>h1.lim i (.inl (.inl hi))) hN (fun z hz=>?_) (hT.to fun i hi=>.inl (.inl hi)) hn hF.ok ht hdb).mono fun e w' hw=>ku h.nS h.lim hb hT hw
 cases f with
 | none=>cases hz
 | some f0=>cases hz;rw[yX];have:=hfl f0 rfl;omega
def Told (k:Int) (w:World) (e:Ending) (w':World):Prop:=e=.returned (.iface 44 (.int .i64 k))/\Below w.heap.size w w'
theorem bdL3 (X T:ByteArray) (w:World):(Instr.build 143 #[(0,.string ⟨#[108,105,110,107]⟩),(1,.string X),(3,.string T)]).run Tryz.prog w=.ok (.agg (.string ⟨#[108,105,110,107]⟩ :: .string X :: (row .u8 zQ++(.string T :: qv zL))).toArray) w:=by kernel_rfl
def lkS (x y:Str):Sp:=⟨wL,x,zQ,y,zL⟩
def jx (S XE:Nat->Prop) (N D R:Nat) (f:Option Str) (n:Nat) (T:Ts) (x y:Str) (w:World) (e:Ending) (w':World):Prop :=
 (¬ (isN x=true/\isN y=true)/\Told 60 w e w') ∨ ((isN x=true/\isN y=true)/\((x=y/\Told 64 w e w') ∨ (x ≠ y/\((clA (fun z=>(stF (aT T) [lkS x y] z).isSome)/\Told 63 w e w') ∨ (¬ clA (fun z=>(stF (aT T) [lkS x y] z).isSome)/\Qy S XE N D R (n+1) (FsA f [lkS x y]) (stF (aT T) [lkS x y]) w e w')))))
theorem isN_lo {x:Str} (h:isN x=true):∀ b ∈ x,b<128:=fun b hb=>by
 have:=(ju h b hb).2
 rw[UInt8.lt_iff_toNat_lt]
 show b.toNat<128
 omega
theorem tk_ne (m:Rk.Tb Str Kp Le) (s:Rk.St Str Kp Le) (z:Str) (h:z ≠ s.1):Rk.tk m s z=m z:=by
 obtain⟨x,k | ⟨_⟩ | e⟩:=s
 ·simp only at h;simp[Rk.tk,Rk.putT,h]
 ·simp only at h;simp[Rk.tk,Rk.delT,h]
 ·simp only at h;simp[Rk.tk,Rk.logT,h]
theorem dT_aT (T:Ts):dT T=fun z=>(aT T z).isSome:=by funext x;unfold aT dT;cases T x <;> rfl
set_option maxHeartbeats 2000000 in
theorem link_any (S XE:Nat->Prop) (N D R:Nat) (w:World) (f:Option Str) (t n:Nat) (T:Ts) (x y:Str) (h:Pw S XE N D R w f t n T) (hN:N<=70000) (hn:n<=70000) (hfl:∀ f0,f=some f0->f0.length<=200000000) (hF:∀ T',aT T'=stF (aT T) [lkS x y]->Few T') (ha:∀ z,(aT T z).isSome=true->∀ b ∈ z,b<128) (ht:Tab w) (hdb:Db w) (hmx:Mx w) :
  Calls Tryz.prog 23 #[.pointer (some ⟨R,0,none⟩),sV x,sV y] w (jx S XE N D R f n T x y w):=by
 obtain⟨r,HR⟩:=nm_ w.heap.size
 have hi1:=yK x w hmx
 have hi2:=fun W (hW:Below r w W)=>yK y W (hmx.below (by rw[HR.out];exact hW))
 rw[HR.out] at hi1
 by_cases hx:isN x=true
 ·rw[hx] at hi1
  by_cases hy:isN y=true
  ·rw[hy] at hi2
   by_cases hxy:x=y
   ·subst hxy
    have HE:Hid (∀ W,Below r w W->jx S XE N D R f n T x x w (.returned (.iface 44 (.int .i64 64))) W):=fun W hW=>.inr ⟨⟨hx,hx⟩,.inl ⟨rfl,rfl,by rw[HR.out];exact hW⟩⟩
    unfold sV at hi1 hi2 ⊢
    clear h hF ha
    go_enter Tryz.func23,Tryz.ntmps23
    go_wp2_with (first
     | (go_at_call 58;refine hi1.mono ?_;rintro e w1 ⟨rfl,hb⟩;have B1:=hid hb;have hi3:=hi2 w1 hb;clear hb hi1 hi2)
     | (go_at_call 58;refine hi3.mono ?_;rintro e w2 ⟨rfl,hb⟩;have B2:Hid (Below r w w2):=hid (B1.out.trans (hb.mono (by have:=B1.out.size;have:=HR.out;omega)));clear hb hi3))
    exact bodyPost_ret (results_tmp Tryz.results23 _ _ _) rfl (HE.out _ B2.out)
   ·have hne:(x == y)=false:=by simpa using hxy
    obtain⟨X,HX⟩:=nm_ (⟨x.toArray⟩:ByteArray)
    obtain⟨Y,HY⟩:=nm_ (⟨y.toArray⟩:ByteArray)
    have hso:vk (lkS x y):=⟨qK.1,qK,qZ hx,qZ hy⟩
    have hst:StL (lkS x y):=⟨hso,.inr (.inl rfl)⟩
    obtain⟨E,hE⟩:∃ E,zX (lkS x y)=E:=⟨_,rfl⟩
    have HBD:Hid (∀ W:World,(Instr.build 143 #[(0,.string ⟨#[108,105,110,107]⟩),(1,.string X),(3,.string Y)]).run Tryz.prog W=.ok (.agg E.toArray) W):=fun W=>by rw[<-hE,<-HX.out,<-HY.out];exact bdL3 _ _ W
    have HBS:Hid (∀ W:World,(Instr.buildSlice 123 1 #[(0,.agg E.toArray)]).run Tryz.prog W=.ok (.slice (some ⟨W.heap.size,0,none⟩) 1 1) (W.alloc (.cells E.toArray 143))):=fun W=>by rw[<-hE];exact vj _ hso W
    have hwl:(wrL [lkS x y]).length<=280000000:=by
     have:=Y3 [lkS x y] (fun s hs=>by rw[List.mem_singleton.1 hs];exact⟨hx,qK.1,qK,qZ hy,.inr (.inl ⟨rfl,hy⟩)⟩)
     simp only[List.length_singleton] at this
     omega
    have HNX:Hid (∀ W,Below r w W->∃ g,W.heap.size=g/\∃ W1,W.alloc (.cells E.toArray 143)=W1/\Below r w W1/\W1.cell? ⟨R,1,none⟩=some (.map (some t))/\Calls Tryz.prog 47 #[.map (some t),.slice (some ⟨g,0,none⟩) 1 1] W1 fun e2 W2=>∃ t',e2=.returned (.map (some t'))/\Calls Tryz.prog 48 #[.map (some t')] W2 fun e3 W3=>∃ b:Bool,e3=.returned (.bool b)/\(b=true->jx S XE N D R f n T x y w (.returned (.iface 44 (.int .i64 63))) W3)/\(b=false->Calls Tryz.prog 50 #[.pointer (some ⟨R,0,none⟩),.slice (some ⟨g,0,none⟩) 1 1,.map (some t')] W3 (jx S XE N D R f n T x y w))):=fun W hW=>by
     refine⟨_,rfl,_,rfl,?_⟩
     have hWr:r<=W.heap.size:=by have:=hW.size;have:=HR.out;omega
     have hb1:Below r w (W.alloc (.cells E.toArray 143)):=hW.alloc hWr _
     have hb1':Below w.heap.size w (W.alloc (.cells E.toArray 143)):=by rw[HR.out];exact hb1
     have h1:=h.below hb1'
     have hP:Px zX 68 dS (W.alloc (.cells E.toArray 143)) (some ⟨W.heap.size,0,none⟩) 1 [lkS x y]:=by
      have:=yu (enc:=zX) (d:=dS) W (lkS x y) 143
      rw[zJ hso,hE] at this
      exact this
     refine⟨hb1,h1.rf.c.2.1,?_⟩
     refine(YZ (SrE S R XE) t n T _ 1 [lkS x y] _ h1.tt h1.lim hP ⟨hso,.inl (.inr (.inl rfl)),trivial⟩ (by simp;omega)).mono ?_
     rintro e2 W2 ⟨t',T',rfl,hTo,hA,hb2⟩
     refine⟨t',rfl,?_⟩
     have hb2':Below w.heap.size w W2:=hb1'.trans (hb2.mono hb1'.size)
     refine(Qq (SrE S R XE) t' _ T' W2 hTo.tt (fun z q hq=>?_)).mono ?_
     ·have hz:(aT T' z).isSome=true:=by unfold aT;rw[hq];rfl
      rw[hA] at hz
      unfold stF at hz
      simp only[List.map_cons,List.map_nil,List.foldl_cons,List.foldl_nil] at hz
      by_cases hzx:z=x
      ·subst hzx
       exact fun b hb=>isN_lo hx b hb
      ·refine ha z ?_
       rw[tk_ne _ _ _ (by simpa [sP,lkS] using hzx)] at hz
       exact hz
     rintro e3 W3 ⟨b,rfl,hbi,hb3⟩
     have hb3':Below w.heap.size w W3:=hb2'.trans (hb3.mono hb2'.size)
     rw[dT_aT,hA] at hbi
     refine⟨b,rfl,fun hb1=>?_,fun hb0=>?_⟩
     ·exact .inr ⟨⟨hx,hy⟩,.inr ⟨hxy,.inl ⟨hbi.1 hb1,rfl,hb3'⟩⟩⟩
     ·refine(X7 S XE N D R w W3 f t n t' _ T T' _ 1 [lkS x y] h hb3' (hTo.tt.below hb3) hN (by simp;omega) hfl (fun _=>hF T' hA) ((hP.below hb2).below hb3) (fun s hs=>by rw[List.mem_singleton.1 hs];exact hst) hwl (by simp) (ht.below hb3') (hdb.below hb3')).mono ?_
      intro e4 W4 h4
      rw[hA] at h4
      exact .inr ⟨⟨hx,hy⟩,.inr ⟨hxy,.inr ⟨fun hcl=>(by rw[hbi.2 hcl] at hb0;cases hb0),h4⟩⟩⟩
    unfold sV at hi1 hi2 ⊢
    rw[HX.out] at hi1
    rw[HY.out] at hi2
    rw[HX.out,HY.out]
    have hee:(X.toList == Y.toList)=false:=by rw[<-HX.out,<-HY.out,Lib.toList_data,Lib.toList_data];exact hne
    have hee2:(X == Y)=false:=by rw[beq_toListBytes];exact hee
    clear h hF ha hE
    go_enter Tryz.func23,Tryz.ntmps23
    go_wp2_with (first
     | (go_at_call 58;refine hi1.mono ?_;rintro e w1 ⟨rfl,hb⟩;have B1:=hid hb;have hi3:=hi2 w1 hb;clear hb hi1 hi2)
     | (go_at_call 58;refine hi3.mono ?_;rintro e w2 ⟨rfl,hb⟩;have hb2:Below r w w2:=B1.out.trans (hb.mono (by have:=B1.out.size;have:=HR.out;omega));obtain⟨g,hg,W1,hW1,_,hc1,c47⟩:=HNX.out w2 hb2;have HG:=hid hg;have HW1:=hid hW1;have C47:=hid c47;clear hb hi3 hb2 hg hW1 c47)
     | (refine z8 rfl (.agg E.toArray) (vx 143 0 1 3 (.const (.string ⟨#[108,105,110,107]⟩)) (.tmp 22) (.tmp 23) rfl (.string ⟨#[108,105,110,107]⟩) (.string X) (.string Y) _ rfl rfl rfl (HBD.out _)) ?_;go_frame)
     | (refine z8 rfl _ (zY 123 (.tmp 24) rfl (.agg E.toArray) _ rfl (HBS.out _)) ?_;rw[HG.out,HW1.out];go_frame)
     | (go_at_call 47;refine C47.out.mono ?_;rintro e w3 ⟨t',rfl,c48⟩;have C48:=hid c48;clear c48)
     | (go_at_call 48;refine C48.out.mono ?_;rintro e w4 ⟨b,rfl,p1,p2⟩;have P1:=hid p1;have P2:=hid p2;clear p1 p2;refine Hid.out ?_))
    refine hid ?_
    cases b with
    | true =>
     go_wp2
     exact bodyPost_ret (results_tmp Tryz.results23 _ _ _) rfl (P1.out (by simp))
    | false =>
     have c50:=P2.out (by simp)
     go_wp2_with (go_at_call 50;refine c50.mono ?_;rintro e w5 k;obtain⟨v5,hv5⟩:∃ v,e=.returned v:=(by rcases k with ⟨_,h,_⟩ | ⟨_,⟨_,h,_⟩ | ⟨_,⟨_,h,_⟩ | ⟨_,_,_,_,_,h,_⟩⟩⟩ <;> exact⟨_,h⟩);subst hv5;have K:=hid k;clear k)
     exact bodyPost_ret (results_tmp Tryz.results23 _ _ _) rfl K.out
  ·have hy':isN y=false:=by simpa using hy
   rw[hy'] at hi2
   have HE:Hid (∀ W,Below r w W->jx S XE N D R f n T x y w (.returned (.iface 44 (.int .i64 60))) W):=fun W hW=>.inl ⟨fun hh=>hy hh.2,rfl,by rw[HR.out];exact hW⟩
   unfold sV at hi1 hi2 ⊢
   clear h hF ha
   go_enter Tryz.func23,Tryz.ntmps23
   go_wp2_with (first
    | (go_at_call 58;refine hi1.mono ?_;rintro e w1 ⟨rfl,hb⟩;have B1:=hid hb;have hi3:=hi2 w1 hb;clear hb hi1 hi2)
    | (go_at_call 58;refine hi3.mono ?_;rintro e w2 ⟨rfl,hb⟩;have B2:Hid (Below r w w2):=hid (B1.out.trans (hb.mono (by have:=B1.out.size;have:=HR.out;omega)));clear hb hi3))
   exact bodyPost_ret (results_tmp Tryz.results23 _ _ _) rfl (HE.out _ B2.out)
 ·have hx':isN x=false:=by simpa using hx
  rw[hx'] at hi1
  have HE:Hid (∀ W,Below r w W->jx S XE N D R f n T x y w (.returned (.iface 44 (.int .i64 60))) W):=fun W hW=>.inl ⟨fun hh=>hx hh.1,rfl,by rw[HR.out];exact hW⟩
  unfold sV at hi1 ⊢
  clear h hF ha hi2
  go_enter Tryz.func23,Tryz.ntmps23
  go_wp2_with (go_at_call 58;refine hi1.mono ?_;rintro e w1 ⟨rfl,hb⟩;have B1:=hid hb;clear hb hi1)
  exact bodyPost_ret (results_tmp Tryz.results23 _ _ _) rfl (HE.out _ B1.out)
theorem Tryz.results29:Tryz.f29.results=#[.tmp 4]:=by kernel_rfl
abbrev Nx:=Str × List Int
def j7 (x:Nx):List Value:=sV x.1 :: row .u8 x.2
abbrev dN:Nx:=([],[])
theorem encN_len {x:Nx} (h:x.2.length=20):(j7 x).length=21:=by simp[j7,zw,h]
theorem encN_one (x:Nx):∀ v ∈ j7 x,v.oneCell'=true:=fun v hv=>by
 unfold j7 at hv
 simp only[List.mem_cons] at hv
 rcases hv with rfl | hv
 ·rfl
 ·exact yQ .u8 x.2 v hv
theorem info149:(Tryz.prog.info? 149).map (fun i=>(i.zero,i.size,i.bytes))=some (some (.agg (j7 ([],zQ)).toArray),21,40):=by kernel_rfl
theorem und83:Tryz.prog.underlying 83=some (.slice 149):=by kernel_rfl
theorem z149:(Value.agg (j7 ([],zQ)).toArray).cells.size=21:=by kernel_rfl
theorem run_bs83 (x:Nx) (h:x.2.length=20) (w:World):(Instr.buildSlice 83 1 #[(0,.agg (j7 x).toArray)]).run Tryz.prog w=.ok (.slice (some ⟨w.heap.size,0,none⟩) 1 1) (w.alloc (.cells (j7 x).toArray 149)):=by
 obtain⟨i,hq,hz,hs,_⟩:=qu info149
 refine run_buildSlice w 83 149 1 _ (j7 x).toArray i _ und83 hq hz (by rw[hs];decide) (by rw[hs];decide) ?_
 rw[hs]
 obtain⟨nm,id⟩:=x
 simp only at h
 obtain⟨c0,c1,c2,c3,c4,c5,c6,c7,c8,c9,c10,c11,c12,c13,c14,c15,c16,c17,c18,c19,rfl⟩:=yZ id h
 unfold j7 sV
 simp only
 generalize (⟨nm.toArray⟩:ByteArray)=P5
 show _=_
 kernel_rfl
theorem bd149 (A:ByteArray) (id:List Int) (hi:id.length=20) (w:World):(Instr.build 149 #[(0,.string A),(1,.agg (row .u8 id).toArray)]).run Tryz.prog w=.ok (.agg (.string A :: row .u8 id).toArray) w:=by
 obtain⟨c0,c1,c2,c3,c4,c5,c6,c7,c8,c9,c10,c11,c12,c13,c14,c15,c16,c17,c18,c19,rfl⟩:=yZ id hi
 kernel_rfl
def lt1 (T:Ts) (p:Str) (x:Str):Option Nx:=if Lib.hasPrefix x p then (match rdT T x with | .ok id=>some (x,id) | .error _=>none) else none
def ltT (T:Ts) (ss:List Str) (p:Str):List Nx:=ss.filterMap (lt1 T p)
theorem rdT_ok {S:Nat->Prop} {w:World} {t n:Nat} {T:Ts} (h:Tt S w t n T) {x:Str} {id:List Int} (hr:rdT T x=.ok id):IdW id:=by
 unfold rdT at hr
 split at hr
 ·cases hr
 ·split at hr
  ·cases hr
  ·rename_i q hq
   cases hr
   exact(h.at_ _ q hq).id
def Post29 (T:Ts) (p:Str) (w:World) (e:Ending) (w':World):Prop := ∃ v ss,e=.returned v/\Nms T ss/\Bx j7 21 149 w w' w.heap.size v (ltT T ss p)
theorem list_refs (S XE:Nat->Prop) (N D R:Nat) (w:World) (f:Option Str) (t n:Nat) (T:Ts) (p:Str) (h:Pw S XE N D R w f t n T) (hn:n<=100000) (hfw:∀ ss,Nms T ss->ss.length<=100000) :
  Calls Tryz.prog 29 #[.pointer (some ⟨R,0,none⟩),sV p] w (Post29 T p w):=by
 obtain⟨r,HR⟩:=nm_ w.heap.size
 have hRr:R<r:=by rw[<-HR.out];exact z7 h.rf.box
 have hc1:=h.rf.c.2.1
 have hnm:=names_any (SrE S R XE) t n T w h.tt hn
 have HTW:Hid (∀ W,Below r w W->Tt (SrE S R XE) W t n T/\W.cell? ⟨R,1,none⟩=some (.map (some t))):=fun W hW=>⟨h.tt.below (by rw[HR.out];exact hW),(hW.cell (p:=⟨R,1,none⟩) hRr).trans hc1⟩
 have HTT:=hid h.tt
 have HN9:=hid hfw
 rw[HR.out] at hnm
 clear h
 unfold sV
 obtain⟨PB',HPB⟩:=nm_ (⟨p.toArray⟩:ByteArray)
 rw[HPB.out]
 go_enter Tryz.func29,Tryz.ntmps29
 go_wp2_with (go_at_call 62;refine hnm.mono ?_;rintro e w1 ⟨v,ss,rfl,q1,q2,q3,q4,q5⟩;rw[<-jz] at q4;obtain⟨a,c,rfl,hP,hpa⟩:=vV (enc:=eT) (d:=[]) q4 (fun _ _=>rfl);have HNM:Hid (Nms T ss):=hid ⟨q1,q2,q3⟩;have HP:=hid hP;have HPA:=hid hpa;have B1:=hid q5;have hss:=HN9.out ss HNM.out;obtain⟨L,HL⟩:∃ L,Hid (ss.length=L):=⟨_,rfl⟩;rw[HL.out] at hss ⊢;clear q1 q2 q3 q4 q5 hP hpa hnm)
 obtain⟨r1,HR1⟩:=nm_ w1.heap.size
 have hr1:r<=r1:=by have:=B1.out.size;have:=HR.out;have:=HR1.out;omega
 have HB0:Hid (Bx j7 21 149 w1 w1 r1 (.slice none 0 0) []):=hid (uz 149 w1 r1 (by rw[HR1.out];exact Nat.le_refl _))
 have HPW:Hid (∀ W,Below r1 w1 W->Px eT 1 [] W a c ss):=fun W hW=>HP.out.below (by rw[HR1.out];exact hW)
 go_loopg [5,16] L (fun q ov iv wr=>∃ (i:Nat) (u:Value) (out:List Nx),iv=.int .i64 i/\u=ov/\q=L-i/\i<=L/\out.length<=i/\Hid (Bx j7 21 149 w1 wr r1 u out)/\Hid (out=(ss.take i).filterMap (lt1 T p)))
 case atStart=>exact⟨0,_,[],rfl,rfl,rfl,Nat.zero_le _,by simp,HB0,hid (by simp)⟩
 case round =>
  obtain⟨i,u,out,rfl,hu,hq,hin,hol,HB,HO⟩:=hrel
  subst hu
  have HPX:Hid (Px eT 1 [] wr a c ss):=hid (HPW.out wr HB.out.below)
  have hbw:Below r w wr:=B1.out.trans (HB.out.below.mono hr1)
  obtain⟨ua,uc,hus⟩:=zZ HB.out.own
  obtain⟨un,hun⟩:∃ n,out.length=n:=⟨_,rfl⟩
  rw[hun] at hus
  subst hus
  by_cases hlt:i<L
  ·have hlti:(i:Int)<(L:Int):=by omega
   obtain⟨b,off,hae,_,e3⟩:=HPX.out.at_ (by rw[HL.out];omega)
   subst hae
   obtain⟨y,hy⟩:∃ y,ss.getD i []=y:=⟨_,rfl⟩
   have k7:wr.cell? ⟨b,off+i,none⟩=some (sV y):=by
    have:=e3 i (by rw[HL.out];exact hlt) 0 _ rfl
    rw[hy] at this
    simpa using this
   have hym:T y ≠ none:=(HNM.out.mem y).1 (by rw[<-hy];exact zK ss i [] (by rw[HL.out];exact hlt))
   have hy60:y.length<=60:=by
    cases hT:T y with
    | none=>exact absurd hT hym
    | some q=>exact(HTT.out.at_ y q hT).nm
   obtain⟨tt1,hcR⟩:=HTW.out wr hbw
   have HTK:Hid ((ss.take (i+1)).filterMap (lt1 T p)=(ss.take i).filterMap (lt1 T p)++(lt1 T p y).toList):=hid (by
    rw[qj [] ss i (by rw[HL.out];exact hlt),List.filterMap_append,<-hy]
    congr 1
    first | done | (simp only[List.filterMap_cons,List.filterMap_nil];cases lt1 T p (ss.getD i []) <;> rfl))
   have hpf:=Nm.hasPrefix_any y p wr
   have hrd:=read1_any (SrE S R XE) t n T y wr tt1 (by omega)
   obtain⟨Y,HY⟩:=nm_ (⟨y.toArray⟩:ByteArray)
   unfold sV at k7 hrd
   rw[HY.out] at k7 hrd
   rw[HY.out,HPB.out] at hpf
   clear e3 tt1 hym hun
   cases hpp:Lib.hasPrefix y p with
   | false =>
    rw[hpp] at hpf
    have HSK:Hid ((ss.take (i+1)).filterMap (lt1 T p)=out):=hid (by
     rw[HTK.out,HO.out]
     unfold lt1
     simp[hpp])
    clear hrd hpp
    go_wp2_with (go_at_call 63;refine hpf.mono ?_;rintro e w' ⟨rfl,hw⟩;have hw':=hw.symm;subst hw';clear hw hpf)
    go_roundg (L-(i+1))
    case measure=>omega
    case rel=>exact⟨i+1,_,out,by go_num,rfl,rfl,by omega,by omega,HB,hid HSK.out.symm⟩
   | true =>
    rw[hpp] at hpf
    unfold PostR at hrd
    cases hRd:rdT T y with
    | error k =>
     obtain⟨Z,HZ⟩:=ri zQ rfl
     rw[hRd] at hrd
     simp only[HZ.out.e] at hrd
     have HSK:Hid ((ss.take (i+1)).filterMap (lt1 T p)=out):=hid (by
      rw[HTK.out,HO.out]
      unfold lt1
      simp[hpp,hRd])
     have HBW:Hid (∀ W,Below wr.heap.size wr W->Bx j7 21 149 w1 (W.alloc (.cells Z 89)) r1 (.slice ua un uc) out):=fun W hW=>(HB.out.carry hW).alloc _
     clear hRd hpp
     go_wp2_with (first
      | (go_at_call 63;refine hpf.mono ?_;rintro e w' ⟨rfl,hw⟩;have hw':=hw.symm;subst hw';clear hw hpf)
      | (go_at_call 64;refine hrd.mono ?_;rintro e w2 ⟨rfl,hb⟩;have HB1:=hid (HBW.out w2 hb);clear hb hrd)
      | (refine zq rfl 89 (.tmp 8) (.tmp 31) rfl _ Z rfl rfl HZ.out.i HZ.out.z HZ.out.o ?_;go_frame))
     go_roundg (L-(i+1))
     case measure=>omega
     case rel=>exact⟨i+1,_,out,by go_num,rfl,rfl,by omega,by omega,HB1,hid HSK.out.symm⟩
    | ok id =>
     have hid':IdW id:=rdT_ok HTT.out hRd
     obtain⟨I,HI⟩:=ri id hid'.1
     rw[hRd] at hrd
     simp only[HI.out.e] at hrd
     obtain⟨E,hE⟩:∃ E,j7 (y,id)=E:=⟨_,rfl⟩
     have HBD:Hid (∀ W:World,(Instr.build 149 #[(0,.string Y),(1,.agg I)]).run Tryz.prog W=.ok (.agg E.toArray) W):=fun W=>by rw[<-hE,<-HY.out,<-HI.out.e];exact bd149 _ id hid'.1 W
     have HBS:Hid (∀ W:World,(Instr.buildSlice 83 1 #[(0,.agg E.toArray)]).run Tryz.prog W=.ok (.slice (some ⟨W.heap.size,0,none⟩) 1 1) (W.alloc (.cells E.toArray 149))):=fun W=>by rw[<-hE];exact run_bs83 (y,id) hid'.1 W
     have HPO:Hid (∀ W:World,Px j7 21 dN (W.alloc (.cells E.toArray 149)) (some ⟨W.heap.size,0,none⟩) 1 [(y,id)]):=fun W=>by
      have:=yu (enc:=j7) (d:=dN) W (y,id) 149
      rw[encN_len (x:=(y,id)) hid'.1,hE] at this
      exact this
     have HXL:Hid ((j7 (y,id)).length=21):=hid (encN_len (x:=(y,id)) hid'.1)
     have HSN:Hid ((ss.take (i+1)).filterMap (lt1 T p)=out++[(y,id)]):=hid (by
      rw[HTK.out,HO.out]
      unfold lt1
      simp[hpp,hRd])
     have HBW:Hid (∀ W,Below wr.heap.size wr W->∃ V K,W.alloc (.cells I 89)=V/\W.heap.size=K/\V.heap[K]? = some (.cells I 89)/\Bx j7 21 149 w1 (V.alloc (.cells E.toArray 149)) r1 (.slice ua un uc) out):=fun W hW=>⟨_,_,rfl,rfl,heap_alloc_new _ _,((HB.out.carry hW).alloc _).alloc _⟩
     have HLN:Hid (out.length + [((y,id):Nx)].length<=1000000000):=hid (by simp;omega)
     clear hRd hpp hE
     go_wp2_with (first
      | (go_at_call 63;refine hpf.mono ?_;rintro e w' ⟨rfl,hw⟩;have hw':=hw.symm;subst hw';clear hw hpf)
      | (go_at_call 64;refine hrd.mono ?_;rintro e w2 ⟨rfl,hb⟩;obtain⟨V,K,hV,hK,hVK,hbx⟩:=HBW.out w2 hb;have HV:=hid hV;have HK:=hid hK;have HVK:=hid hVK;have HBX:=hid hbx;clear hb hrd hV hK hVK hbx)
      | (refine zq rfl 89 (.tmp 8) (.tmp 31) rfl _ I rfl rfl HI.out.i HI.out.z HI.out.o ?_;rw[HV.out,HK.out];go_frame)
      | (refine zu rfl 89 (.tmp 8) rfl _ I 89 (0,0) _ rfl HVK.out Tryz.underlying89 rfl HI.out.i ?_;go_frame)
      | (refine z8 rfl (.agg E.toArray) (xJ 149 0 1 (.tmp 36) (.tmp 37) rfl (.string Y) (.agg I) _ rfl rfl (HBD.out _)) ?_;go_frame)
      | (refine z8 rfl _ (zY 83 (.tmp 38) rfl (.agg E.toArray) _ rfl (HBS.out _)) ?_;go_frame)
      | (at_builtin;refine zj (enc:=j7) (k:=21) (d:=dN) rfl _ _ 83 149 und83 info149 z149 (by decide) (by decide) encN_one rfl r1 (.slice ua un uc) out rfl HBX.out (some ⟨V.heap.size,0,none⟩) 1 [(y,id)] rfl (HPO.out V) (fun z hz=>by rw[List.mem_singleton.1 hz];exact HXL.out) HLN.out ?_;intro v3 w3 hb3 hg3 hm3;have HB3:=hid hb3;clear hb3 hg3 hm3))
     go_roundg (L-(i+1))
     case measure=>omega
     case rel=>exact⟨i+1,_,out++[(y,id)],by go_num,rfl,rfl,by omega,by simp;omega,HB3,hid HSN.out.symm⟩
  ·have hlti:¬ (i:Int)<(L:Int):=by omega
   obtain rfl:i=L:=by omega
   have HF:Hid (Post29 T p w (.returned (.slice ua un uc)) wr):=hid ⟨_,ss,rfl,HNM.out,by
    rw[HR.out]
    have:out=ltT T ss p:=by rw[HO.out,List.take_of_length_le (by rw[HL.out];exact Nat.le_refl _)];rfl
    rw[<-this]
    exact⟨hbw,qk HB.out.own hr1,by have:=hbw.size;have:=HR.out;omega⟩⟩
   clear hun
   go_wp2
   exact bodyPost_ret (results_tmp Tryz.results29 _ _ _) rfl HF.out
structure Wy where
 a:Option Addr
 c:Nat
 l:List Str
def XQ (x:Wy):List Value:=[.slice x.a x.l.length x.c]
abbrev dW:Wy:=⟨none,0,[]⟩
theorem encW_one (x:Wy):∀ v ∈ XQ x,v.oneCell'=true:=fun v hv=>by
 unfold XQ at hv
 rw[List.mem_singleton.1 hv]
 rfl
theorem info64:(Tryz.prog.info? 64).map (fun i=>(i.zero,i.size,i.bytes))=some (some (.slice none 0 0),1,24):=by kernel_rfl
theorem und120:Tryz.prog.underlying 120=some (.slice 64):=by kernel_rfl
theorem z64:(Value.slice none 0 0).cells.size=1:=by kernel_rfl
structure Wz (w0 w:World) (B:Nat) (v:Value) (xs:List Wy):Prop where
 bx:Bx XQ 1 64 w0 w B v xs
 el:∀ x ∈ xs,w.ownsRow B 9 1 (.slice x.a x.l.length x.c) x.l.length (x.l.map sV)
theorem Wz.nil (w:World) (B:Nat) (hB:B<=w.heap.size):Wz w w B (.slice none 0 0) []:=⟨uz 64 w B hB,fun x hx=>by cases hx⟩
theorem Wz.carry {w0 w W:World} {B:Nat} {v:Value} {xs:List Wy} (h:Wz w0 w B v xs) (hb:Below w.heap.size w W):Wz w0 W B v xs:=⟨h.bx.carry hb,fun x hx=>xV (h.el x hx) hb⟩
theorem Wz.alloc {w0 w:World} {B:Nat} {v:Value} {xs:List Wy} (h:Wz w0 w B v xs) (o:Obj):Wz w0 (w.alloc o) B v xs:=h.carry ((Below.refl _ w).alloc (Nat.le_refl _) o)
theorem Wz.more {w0 w w':World} {B:Nat} {v v':Value} {xs:List Wy} {x:Wy} (h:Wz w0 w B v xs) (hx:w.ownsRow B 9 1 (.slice x.a x.l.length x.c) x.l.length (x.l.map sV)) (hb:Bx XQ 1 64 w0 w' B v' (xs++[x])) (hm:Mv w w' v v'):Wz w0 w' B v' (xs++[x]):=by
 have ht:Tf 64 w w':=Tf.mv hm (fun k hk=>by
  obtain⟨hl,⟨hv,h0⟩ | ⟨g,cap,cur,hv,hb,hh,_⟩⟩:=h.bx.own
  ·rw[hv] at hk;cases hk
  ·rw[hv] at hk
   simp only[Value.ownBlock,Option.some.injEq] at hk
   subst hk
   exact⟨_,_,hh⟩)
 refine⟨hb,fun y hy=>?_⟩
 rcases List.mem_append.1 hy with hy | hy
 ·exact zV (h.el y hy) ht (by decide)
 ·rw[List.mem_singleton.1 hy]
  exact zV hx ht (by decide)
theorem Wz.at {w0 w:World} {B:Nat} {v:Value} {xs:List Wy} (h:Wz w0 w B v xs) {i:Nat} (hi:i<xs.length):∃ b off c,v=.slice (some ⟨b,off,none⟩) xs.length c/\w.cell? ⟨b,off+i,none⟩=some (.slice (xs.getD i dW).a (xs.getD i dW).l.length (xs.getD i dW).c)/\Px eT 1 [] w (xs.getD i dW).a (xs.getD i dW).c (xs.getD i dW).l:=by
 obtain⟨a,c,e,hP,_⟩:=h.bx.px (d:=dW) (fun _ _=>rfl)
 obtain⟨b,off,e1,_,e3⟩:=hP.at_ (by omega)
 subst e1
 refine⟨b,off,c,e,?_,?_⟩
 ·have:=e3 i hi 0 _ rfl
  simpa using this
 ·have ho:=h.el _ (zK xs i dW hi)
  rw[<-jz] at ho
  obtain⟨a',c',e',hP',_⟩:=vV (enc:=eT) (d:=[]) ho (fun _ _=>rfl)
  injection e' with e1 _ e2
  rw[e1,e2]
  exact hP'
theorem run_bs120 (a:Option Addr) (n c:Nat) (w:World):(Instr.buildSlice 120 1 #[(0,.slice a n c)]).run Tryz.prog w=.ok (.slice (some ⟨w.heap.size,0,none⟩) 1 1) (w.alloc (.cells #[.slice a n c] 64)):=by kernel_rfl
theorem TM.count {z:Value} {w:World} {g n:Nat} {M:Str->Option Value} (h:TM z w g n M) {t e:TypeId} (ht:Tryz.prog.underlying t=some (.map 9 e)) (ty:TypeId) (ks:List Str) (hk:ks.Nodup) (hm:∀ x,x ∈ ks ↔ (M x).isSome=true) (h4:∀ x ∈ ks,x.length<=4000) :
  (Builtin.len_ #[t] ty #[.map (some g)]).run Tryz.prog w=.ok (.int .i64 ks.length) w:=by
 obtain⟨D0,hown,hv⟩:=h
 have hmem:∀ x,x ∈ strKeys D0 ↔ x ∈ ks:=fun x=>by
  rw[kw hown Tryz.underlying9,hm x]
  constructor
  ·intro hx
   have hl:=strKeys_le hown Tryz.underlying9 x ((kw hown Tryz.underlying9 x).2 hx)
   rw[(hv x _ (key_len x hl)).1] at hx
   exact hx
  ·intro hx
   rw[(hv x _ (Zk x (h4 x ((hm x).2 hx)))).1]
   exact hx
 have hnd:(strKeys D0).Nodup:=by
  obtain⟨es,rfl,hes⟩:=hown.keysOf
  obtain⟨es',e,hpw,_⟩:=hown.entries vY
  cases e
  simp only[strKeys]
  refine(List.pairwise_map.2 (hpw.imp_of_mem fun {p q} hp hq hne hpq=>?_))
  obtain⟨key,hkey⟩:=hes p hp
  obtain⟨key',hkey'⟩:=hes q hq
  obtain⟨y,_,e1,_⟩:=Maps.keyOf_str Tryz.underlying9 hkey
  obtain⟨y',_,e2,_⟩:=Maps.keyOf_str Tryz.underlying9 hkey'
  rw[e1,e2] at hpq hne
  simp only[strOf] at hpq
  exact hne (by rw[hpq])
 have hlen:(strKeys D0).length=ks.length:=((List.perm_ext_iff_of_nodup hnd hk).2 hmem).length_eq
 have hsz:Maps.size D0=(strKeys D0).length:=by
  obtain⟨es,rfl,hes⟩:=hown.keysOf
  simp[strKeys,Maps.size]
 rw[hown.len ht ty,hsz,hlen]
theorem und176:Tryz.prog.underlying 176=some (.map 9 179):=by kernel_rfl
theorem build179 (w:World):(Instr.build 179 #[]).run Tryz.prog w=.ok (.agg #[]) w:=by kernel_rfl
theorem mk176 (w:World):(Instr.makeMap 176 none).run Tryz.prog w=.ok (.map (some w.heap.size)) (w.alloc (.map #[] 0)):=by kernel_rfl
end Go.Proofs.YtgliaiemkfopeaaGreatDoor.K
