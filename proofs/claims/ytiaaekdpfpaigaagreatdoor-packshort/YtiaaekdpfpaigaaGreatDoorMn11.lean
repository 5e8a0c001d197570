import Derived.Test.YtiaaekdpfpaigaaGreatDoorMn10
set_option linter.unusedSimpArgs false
set_option linter.unusedVariables false
set_option maxRecDepth 20000
set_option maxHeartbeats 4000000
open Int renaming toNat_natCast->Wz0
open Nat renaming add_zero->WzX,eq_zero_or_pos->Wx0,le_refl->WzV
open Option renaming none->Wx1
namespace Go.Proofs.YtiaaekdpfpaigaaGreatDoor.Dl
open Go.Proofs.Tryz
open Go.RowKit Go.Maps
def upd {α:Type} (f:Nat->α) (i:Nat) (v:α):Nat->α:=fun j=>if j=i then v else f j
theorem upd_same {α:Type} (f:Nat->α) (i:Nat) (v:α):upd f i v i=v:=by simp[upd]
theorem upd_ne {α:Type} (f:Nat->α) {i j:Nat} (v:α) (h:j ≠ i):upd f i v j=f j:=by simp[upd,h]
def Fn.more (F:Fn) (s x t eb ce:Nat):Fn:={ F with K:=F.K+1,eb:=eb,ce:=ce,to:=upd F.to F.K t,nx:=upd F.nx F.K (F.hd s),by_:=upd F.by_ F.K x,src:=upd F.src F.K s }
def Fn.head (F:Fn) (s e:Nat):Fn:={ F with hd:=upd F.hd s e }
def Fn.mapS (F:Fn) (s x e:Nat):Fn:={ F with mn:=F.mn+1,m:=fun s' x'=>if s'=s/\x'=x then e else F.m s' x' }
def Fn.join (F:Fn) (s x t eb ce:Nat):Fn:=(((F.more s x t eb ce).head s F.K).mapS s x F.K)
section
variable {B g : Nat} {w : World} {F : Fn}
theorem Rep.more (h:Rep B w g F) {wx w1:World} {ao:Option Addr} {cap s x t:Nat} (hx:w.grownBy wx none) (hg:wx.grownBy w1 (some F.eb))
  (ho:w1.ownsRow B 202 3 (.slice ao (F.K+1:Nat) cap) (F.K+1) (uk F.edv F.K 3++[.int .i32 t,.int .i32 (F.hd s),.int .u8 x]))
  (hat:(Value.slice ao (F.K+1:Nat) cap).ownBlock=some F.eb ∨ (Value.slice ao (F.K+1:Nat) cap).ownBlock=some wx.heap.size) :
  ∃ eb,ao=some ⟨eb,0,none⟩/\Rep B (w1.setCell ⟨g,1,none⟩ (.slice ao (F.K+1:Nat) cap)) g (F.more s x t eb cap)/\Below B w (w1.setCell ⟨g,1,none⟩ (.slice ao (F.K+1:Nat) cap))/\
   w1.cell? ⟨g,0,none⟩=w.cell? ⟨g,0,none⟩/\w1.cell? ⟨g,1,none⟩=w.cell? ⟨g,1,none⟩/\(∀ i,w1.cell? ⟨F.sb,i,none⟩=w.cell? ⟨F.sb,i,none⟩)/\w1.frozen? ⟨g,1,none⟩=false:=by
 obtain⟨a1,a2,a3,a4,a5,a6⟩:=h.ap;have hs1:=hx.size;have hs2:=hg.size;have blk:∀ k,k<w.heap.size->k ≠ F.eb->w1.heap[k]? = w.heap[k]? := fun k hk hne=>(hg.block k (by omega) (by simpa using hne)).trans (hx.block k hk (by simp));have hrow:uk (F.more s x t 0 cap).edv (F.K+1) 3=uk F.edv F.K 3++[.int .i32 t,.int .i32 (F.hd s),.int .u8 x]:=by
  rw[NW _ _ _ (by omega)];congr 1
  ·unfold uk;refine List.map_congr_left fun i hi=>?_;have hi':=List.mem_range.1 hi;have hd:i / 3<F.K:=(Nat.div_lt_iff_lt_mul (by omega)).2 hi';simp only[Fn.edv,Fn.more,upd,show ¬ i / 3=F.K by omega,if_false]
  simp[Fn.edv,Fn.more,upd,List.range_succ]
 rw[<-hrow] at ho;obtain⟨eb,rfl,hBe,hr⟩:=Row.of_owns (v:=.nilIface) (by omega) ho;have hne:∀ k,k<w.heap.size->k ≠ F.eb->k ≠ eb:=fun k hk hne e=>by
  subst e;rcases hat with e | e
  ·simp[Value.ownBlock] at e;exact hne e
  simp[Value.ownBlock] at e;omega
 have e1:=blk g h.glt a2;have e2:=blk F.sb h.st.lt a4;have e3:=blk F.mb h.mp.lt (Ne.symm a6);have f1:∀ (v:Value) k,k ≠ g->(w1.setCell ⟨g,1,none⟩ v).heap[k]? = w1.heap[k]? := fun v k hk=>Below.heap_setCell w1 _ v k hk
 refine⟨eb,rfl,⟨?_,?_,?_,?_,h.Bg,h.Bs,hBe,h.Bm,h.csl,Nat.le_succ_of_le h.mnl⟩,⟨?_,?_,?_,?_,?_⟩,World.cell?_of_block (a:=⟨g,0,none⟩) e1,World.cell?_of_block (a:=⟨g,1,none⟩) e1,fun i=>World.cell?_of_block (a:=⟨F.sb,i,none⟩) e2,(World.frozen?_of_block (a:=⟨g,1,none⟩) e1).trans (h.fz 1)⟩
 ·rw[heap_set w1 g 1 _ (e1.trans h.fin)];simp[Fn.obj,Fn.more]
 ·exact h.st.kept ((f1 _ _ (Ne.symm a1)).trans e2)
 ·exact(hr.kept (f1 _ _ (Ne.symm (hne g h.glt a2)))).congr (fun _ _ _ _=>rfl)
 ·exact h.mp.kept ((f1 _ _ (Ne.symm a3)).trans e3)
 ·exact hg.os.trans hx.os
 ·exact hg.tape.trans hx.tape
 ·exact hg.output.trans hx.output
 ·simp[World.setCell];omega
 intro k hk;have:=h.Bg;have:=h.Be;have:=h.glt;exact(f1 _ _ (by omega)).trans (blk k (by omega) (by omega))
theorem Rep.head (h:Rep B w g F) {s:Nat} (e:Nat) (hs:s<F.N):Rep B (w.setCell ⟨F.sb,s*4+3,none⟩ (.int .i32 e)) g (F.head s e)/\Below B w (w.setCell ⟨F.sb,s*4+3,none⟩ (.int .i32 e)):=by
 obtain⟨a1,a2,a3,a4,a5,a6⟩:=h.ap;have f1:∀ k,k ≠ F.sb->(w.setCell ⟨F.sb,s*4+3,none⟩ (.int .i32 e)).heap[k]? = w.heap[k]? := fun k hk=>Below.heap_setCell w _ _ k hk;refine⟨⟨(f1 g a1).trans h.fin,(h.st.set hs (by omega) _).congr (fun s' k' hs' hk'=>?_),h.ed.kept (f1 _ (Ne.symm a4)),h.mp.kept (f1 _ (Ne.symm a5)),h.Bg,h.Bs,h.Be,h.Bm,h.csl,h.mnl⟩,(Below.refl _ _).setCell h.Bs _⟩
 by_cases hq:s'=s/\k'=3
 ·obtain⟨rfl,rfl⟩:=hq;simp[Fn.stv,Fn.head,upd]
 rw[if_neg hq];have hk:k'=0 ∨ k'=1 ∨ k'=2 ∨ k'=3:=by omega
 rcases hk with rfl | rfl | rfl | rfl
 ·rfl
 ·rfl
 ·rfl
 have hne:s' ≠ s:=fun e=>hq ⟨e,rfl⟩;simp[Fn.stv,Fn.head,upd,hne]
theorem zjW {s x s' x':Nat} (hx:x<256) (hx':x'<256) (h:kyL s x=kyL s' x'):s=s'/\x=x':=by
 simp only[kyL,Lit.int.injEq,true_and] at h;omega
theorem Rep.mapS (h:Rep B w g F) {s x e:Nat} (hs:s<16777216) (hx:x<256) (he:e<2147483648) (hK:F.K<=200000000) (hm:F.mn<F.K) :
  ∃ w',(Instr.mapUpdate 194 (.map (some F.mb)) (.int .u32 ((s*256+x:Nat):Int)) (.int .i32 e)).run prog w=.ok () w'/\Rep B w' g (F.mapS s x e)/\Below B w w'/\w'.cell? ⟨g,2,none⟩=w.cell? ⟨g,2,none⟩:=by
 obtain⟨D,hD,hat⟩:=h.mp;obtain⟨a1,a2,a3,a4,a5,a6⟩:=h.ap;obtain⟨w',h1,h2,h3⟩:=hD.update BJ underlying194 (by unfold maxLen;omega) (zyv s x hs hx) (plainElem_int underlying21 (WalkArith.wf_i32 (n:=(e:Int)) ⟨by omega,by omega⟩));have bl:∀ k,k<w.heap.size->k ≠ F.mb->w'.heap[k]? = w.heap[k]? := fun k hk hne=>h3.block k hk (by simpa using hne)
 refine⟨w',h1,⟨(bl g h.glt a3).trans h.fin,h.st.kept (bl _ h.st.lt a5),h.ed.kept (bl _ h.ed.lt a6),⟨_,h2,fun s' x' hs' hx'=>?_⟩,h.Bg,h.Bs,h.Be,h.Bm,h.csl,hm⟩,⟨h3.os,h3.tape,h3.output,h3.size,fun k hk=>bl k ?_ ?_⟩,World.cell?_of_block (a:=⟨g,2,none⟩) (bl g h.glt a3)⟩
 ·by_cases hq:s'=s/\x'=x
  ·obtain⟨rfl,rfl⟩:=hq;rw[Maps.atKey_put_same (hD.tidy BJ).isMap (show WideAt.IsKeyLit (kyL s' x') from trivial)];simp[Fn.mapS]
  rw[Maps.atKey_put_other (fun e=>hq (zjW hx' hx e)),hat s' x' hs' hx'];simp[Fn.mapS,hq]
 ·have:=h.Bg;have:=h.glt;omega
 have:=h.Bm;omega
end
theorem new3 (w:World) (a b c:Value) (t:TypeId):∀ j u,[a,b,c][j]? = some u->(w.alloc (.cells #[a,b,c] t)).cell? ((⟨w.heap.size,0,none⟩:Addr).add j)=some u:=by
 intro j u hj;rw[addr_add,Nat.zero_add];have hh:(w.alloc (.cells #[a,b,c] t)).heap[w.heap.size]? = some (.cells #[a,b,c] t):=by
  show (w.heap.push _)[w.heap.size]? = _;simp
 simp only[World.cell?,hh];simpa using hj
theorem zW {w:World} {B n:Nat} {e:TypeId} {size:Nat} {v:Value} {xs:List Value} (h:w.ownsRow B e size v n xs):∃ a cp,v=.slice a (n:Nat) cp:=by
 obtain⟨_,⟨h1,h2⟩ | ⟨g,cap,cur,hv,_⟩⟩:=h
 ·exact⟨none,0,by rw[h1,h2]⟩
 exact⟨_,_,hv⟩
theorem kK {P:Program} (w:World) {ops:Array Oper} {o:Oper} {a:Act} {K:Act->World->Prop} {Q:Exit->Act->World->Prop} {E:Prop} (hgd:o.guard=none) (s x:Operand) (t:TypeId)
  (ho:o.op=.call { callee:=.builtin .append,args:=#[s,x],argTypes:=#[t,t] })
  (base:Nat) (e:TypeId) (i:TypeInfo) (z:Value) (size bytes:Nat) (ht:P.underlying t=some (.slice e)) (hi:P.info? e=some i) (hz:i.zero=some z)
  (hsize:i.size=size) (hby:i.bytes=bytes) (hzs:z.cells.size=size) (hsz:0<size)
  (v:Value) (n:Nat) (xs:List Value) (hs:a.eval s=v) (hown:w.ownsRow base e size v n xs)
  (ad:Addr) (m c:Nat) (news:List Value) (hx:a.eval x=.slice (some ad) m c) (hl:news.length=m*size) (hnews:∀ j u,news[j]? = some u->w.cell? (ad.add j)=some u) (h1:∀ u ∈ news,u.oneCell'=true)
  (h63:n+m<=maxLen) (hbytes:(n+m)*bytes<=140737488355328) (hbase:base<=w.heap.size)
  (h:∀ (ao:Option Addr) (cap:Nat) (w':World),w'.ownsRow base e size (.slice ao (n+m:Nat) cap) (n+m) (xs++news)->w.grownBy w' v.ownBlock->((Value.slice ao (n+m:Nat) cap).ownBlock=v.ownBlock ∨ (Value.slice ao (n+m:Nat) cap).ownBlock=some w.heap.size)->K (a.put o.dst (.slice ao (n+m:Nat) cap)) w') :
  if Region.wanted o (yielded ops a.tmps)=true then Oper.wp P o a w K Q else E:=by
 have hw:Region.wanted o (yielded ops a.tmps)=true:=by simp[Region.wanted,hgd]
 rw[if_pos hw];obtain⟨v',w',hr,h2,h3,_,h5⟩:=run_append_own_at (P:=P) w base t o.type e i z size bytes ht hi hz hsize hby hzs hsz v n xs hown ad m c news hl hnews h1 h63 hbytes hbase;obtain⟨ao,cap,rfl⟩:=zW h2;unfold Oper.wp execOp;simp only[ho,resolve,invoke,builtin,Sem.run_bind,Sem.run_pure,Result.andThen_ok,List.map_toArray,List.map_cons,List.map_nil,hs,hx,hr]
 exact h ao cap w' h2 h3 h5
theorem info202:(prog.info? 202).map (fun i=>(i.zero,i.size,i.bytes))=some (some (.agg #[.int .i32 0,.int .i32 0,.int .u8 0]),3,12):=by kernel_rfl
theorem info198:(prog.info? 198).map (fun i=>(i.zero,i.size,i.bytes))=some (some (.agg #[.int .i32 0,.int .i32 0,.int .i32 0,.int .i32 0]),4,16):=by kernel_rfl
set_option maxRecDepth 10000 in
theorem D3 {B g:Nat} {F:Fn} (s x t:Nat) (hx:x<256) (w:World) (hR:Rep B w g F) (hs:s<F.N) (hK:F.K<=100000000) :
  Calls prog 113 #[.pointer (some ⟨g,0,none⟩),.int .i32 s,.int .u8 x,.int .i32 t] w fun e w'=>(∃ v,e=.returned v)/\∃ eb ce,Rep B w' g (F.join s x t eb ce)/\Below B w w':=by
 obtain⟨i,hi,hz0,hz1,hz2⟩:=info_parts info202;have c0:=hR.c0;have c1:=hR.c1;have cs:=hR.st.cell hs (show 3<4 by omega);have hN:=hR.st.le;have hcl:=hR.csl;have HOW:Hid (w.ownsRow B 202 3 (.slice (some ⟨F.eb,0,none⟩) F.K F.ce) F.K (uk F.edv F.K 3)):=hR.ed.owns (show 0<3 by omega) hR.Be;have HR:Hid _:=hR;obtain⟨N,HN⟩:∃ N,Hid (N=F.N):=⟨_,rfl⟩
 obtain⟨K,HKK⟩:∃ K,Hid (K=F.K):=⟨_,rfl⟩;obtain⟨h,HH⟩:=nn_ (F.hd s);have csv:F.stv s 3=.int .i32 h:=by rw[HH.out];rfl
 rw[csv] at cs;rw[<-HN.out] at hs c0 hN;rw[<-HKK.out] at hK c1 HOW;have hsN:s<300000:=by omega
 have hgl:=hR.glt;have hBl:B<=w.heap.size:=by have:=hR.Bg;omega
 clear hR csv;go_enter func113,ntmps113;go_wp2_with fail
 refine wp_region_held_drew (S:=fun w'=>w'.cell? ⟨g,0,none⟩=some (.slice (some ⟨F.sb,0,none⟩) N F.cs)/\w'.cell? ⟨F.sb,s*4+3,none⟩=some (.int .i32 h)) (by kernel_rfl) ⟨c0,cs⟩ (fun hHeld=>?_);have c1':w.drew.cell? ⟨g,1,none⟩=some (.slice (some ⟨F.eb,0,none⟩) K F.ce):=c1;refine tZ (i:=0) hHeld ?_;try simp only[Act.put,sL]
 refine tZ (i:=1) hHeld ?_;try simp only[Act.put,sL]
 refine tZ (i:=2) hHeld ?_;try simp only[Act.put,sL]
 refine tZ (i:=3) hHeld ?_;try simp only[Act.put,sL]
 refine tZ (i:=5) hHeld ?_;try simp only[Act.put,sL]
 refine tZ (i:=6) hHeld ?_;try simp only[Act.put,sL]
 refine tZ (i:=7) hHeld ?_;try simp only[Act.put,sL]
 refine tZ (i:=8) hHeld ?_;try simp only[Act.put,sL]
 refine tZ (i:=9) hHeld ?_;try simp only[Act.put,sL]
 refine tZ (i:=10) hHeld ?_;try simp only[Act.put,sL]
 refine tZ (i:=11) hHeld ?_;try simp only[Act.put,sL]
 refine tZ (i:=12) hHeld ?_;try simp only[Act.put,sL]
 refine tZ (i:=13) hHeld ?_;try simp only[Act.put,sL]
 refine tZ (i:=14) hHeld ?_;try simp only[Act.put,sL]
 refine tZ (i:=15) hHeld ?_;try simp only[Act.put,sL]
 have HX:Hid (w.grownBy (w.drew.alloc (.cells #[.int .i32 t,.int .i32 h,.int .u8 x] 202)) none):=⟨rfl,rfl,rfl,(World.grownBy_alloc w.drew _ none).size,(World.grownBy_alloc w.drew _ none).block⟩
 have c0x:(w.drew.alloc (.cells #[.int .i32 t,.int .i32 h,.int .u8 x] 202)).cell? ⟨g,0,none⟩=some (.slice (some ⟨F.sb,0,none⟩) N F.cs):=(World.cell?_alloc_some _ _ _ (by rw[hHeld.1];rfl)).trans hHeld.1
 have c1x:(w.drew.alloc (.cells #[.int .i32 t,.int .i32 h,.int .u8 x] 202)).cell? ⟨g,1,none⟩=some (.slice (some ⟨F.eb,0,none⟩) K F.ce):=(World.cell?_alloc_some _ _ _ (by rw[c1'];rfl)).trans c1';have csx:(w.drew.alloc (.cells #[.int .i32 t,.int .i32 h,.int .u8 x] 202)).cell? ⟨F.sb,s*4+3,none⟩=some (.int .i32 h):=(World.cell?_alloc_some _ _ _ (by rw[hHeld.2];rfl)).trans hHeld.2
 have HNW:=new3 w.drew (.int .i32 t) (.int .i32 h) (.int .u8 x) 202;have HOX:Hid _:=(show w.drew.ownsRow B 202 3 (.slice (some ⟨F.eb,0,none⟩) K F.ce) K (uk F.edv K 3) from HOW.out).alloc (.cells #[.int .i32 t,.int .i32 h,.int .u8 x] 202);have HNW':Hid _:=HNW;clear HNW HOW;refine wpAnyH_ready (rs:=[4,16]) (by kernel_rfl) (by simp) ?_
 refine consL rfl (fun KK hKK=>?_) (consL rfl (fun KK hKK=>?_) AllReadyH.nil)
 ·go_simp;refine hKK.out _ _ hHeld (fun _=>?_);clear hKK KK;try simp only[Act.put,sL]
  refine wpAnyH_ready (rs:=[16]) (by kernel_rfl) (by simp) ?_;refine consL rfl (fun KK hKK=>?_) AllReadyH.nil;go_simp;refine hKK.out _ _ ⟨c0x,csx⟩ (fun _=>?_);clear hKK KK;try simp only[Act.put,sL]
  refine wpAnyH_ready (rs:=[17]) (by kernel_rfl) (by simp) ?_;refine consL rfl (fun KK hKK=>?_) AllReadyH.nil
  refine kK _ (by rfl) _ _ _ (by rfl) B 202 i _ 3 12 underlying193 hi hz0 hz1 hz2 rfl (by omega) (.slice (some ⟨F.eb,0,none⟩) K F.ce) K (uk F.edv K 3) (by rfl) (by exact HOX.out) ⟨w.heap.size,0,none⟩ 1 1 [.int .i32 t,.int .i32 h,.int .u8 x] (by rfl) (by simp) (by exact HNW'.out) (by intro u hu;simp at hu;rcases hu with rfl | rfl | rfl <;> rfl) (by unfold maxLen;omega) (by omega) (by simp;omega) ?_
  intro ao cp w1 ho hg hat
  have HM:=HR.out.more (s:=s) (x:=x) (t:=t) (ao:=ao) (cap:=cp) HX.out hg;rw[<-HKK.out,<-HH.out] at HM;obtain⟨eb,rfl,hR2,hB2,e0,e1,es,ez⟩:=HM ho hat
  have k0:=e0.trans c0;have k1:=e1.trans c1;have ks:=(es _).trans cs;have HR2:Hid _:=hR2;have HB2:Hid _:=hB2;clear ho hg hat hR2 hB2 e0 e1 es HM;refine hKK.out _ _ ⟨k0,ks⟩ (fun hHeld5=>?_);clear hKK KK;try simp only[Act.put,sL]
  refine tZ (i:=18) hHeld5 ?_;try simp only[Act.put,sL]
  refine tZ (i:=19) hHeld5 ?_;try simp only[Act.put,sL]
  refine wpAnyH_ready (rs:=[20]) (by kernel_rfl) (by simp) ?_;refine consL rfl (fun KK hKK=>?_) AllReadyH.nil;go_simp;obtain⟨w2,HW2⟩:=nm_ (w1.setCell ⟨g,1,none⟩ (.slice (some ⟨eb,0,none⟩) (K+1:Nat) cp));rw[HW2.out] at HR2 HB2;have d0:=HR2.out.c0;have d2:=HR2.out.c2;have hs2:s<(F.more s x t eb cp).N:=by rw[HN.out] at hs;exact hs
  have ds:=HR2.out.st.cell hs2 (show 3<4 by omega);have fs:=HR2.out.st.frozen (s*4+3);have HR3:Hid _:=HR2.out.head K hs2;have dsv:(F.more s x t eb cp).stv s 3=.int .i32 h:=by rw[HH.out];rfl
  rw[dsv] at ds;simp only[Fn.more] at d0 d2 ds fs;rw[<-HN.out] at d0;refine hKK.out _ _ ⟨by rw[HW2.out];exact d0,by rw[HW2.out];exact ds⟩ (fun _=>?_);clear hKK KK;try simp only[Act.put,sL]
  rw[HW2.out];refine wpAnyH_done (by kernel_rfl) ?_ _;clear HW2 hHeld5 c0 c1 cs k0 k1 ks c0x c1x csx hHeld ez;go_wp2_with fail
  have HR4:Hid (Rep B (w2.setCell ⟨F.sb,s*4+3,none⟩ (.int .i32 K)) g ((F.more s x t eb cp).head s K)):=HR3.out.1;have HB4:Hid (Below B w (w2.setCell ⟨F.sb,s*4+3,none⟩ (.int .i32 K))):=HB2.out.trans HR3.out.2;obtain⟨w3,HW3⟩:=nm_ (w2.setCell ⟨F.sb,s*4+3,none⟩ (.int .i32 K));rw[HW3.out] at HR4 HB4 ⊢;clear HW3 HR3 HR2 HB2 d0 d2 ds fs
  have m2:w3.drew.cell? ⟨g,2,none⟩=some (.map (some F.mb)):=HR4.out.c2;obtain⟨w4,hr4,hR5,hB5,e5⟩:=(HR4.out.drewN 1).mapS (s:=s) (x:=x) (e:=K) (by omega) hx (by omega) (by show F.K+1<=_;rw[<-HKK.out];omega) (by have:=HR.out.mnl;show F.mn<F.K+1;omega);have HR5:Hid _:=hR5;have HB5:Hid _:=hB5;clear hR5 hB5
  have hr5:(Instr.mapUpdate 194 (.map (some F.mb)) (.int .u32 ((s*256+x:Nat):Int)) (.int .i32 K)).run prog w3.drew=.ok () w4:=hr4;have m4:w4.cell? ⟨g,2,none⟩=some (.map (some F.mb)):=e5.trans m2;clear hr4 e5;obtain⟨ky,HKY⟩:=nn_ ((s*256+x:Nat):Int);have HKE:Hid _:=fun w'=>RZ s x (by omega) hx w';rw[<-HKY.out] at HKE hr5
  refine wp_region_held_drew (S:=fun w'=>w'.cell? ⟨g,2,none⟩=some (.map (some F.mb))) (by kernel_rfl) m2 (fun hHeld=>?_);refine tV (i:=0) hHeld ?_;try simp only[Act.put,sL]
  refine tV (i:=1) hHeld ?_;try simp only[Act.put,sL]
  refine tV (i:=2) hHeld ?_;try simp only[Act.put,sL]
  refine tV (i:=3) hHeld ?_;try simp only[Act.put,sL]
  refine tV (i:=4) hHeld ?_;try simp only[Act.put,sL]
  refine tV (i:=5) hHeld ?_;try simp only[Act.put,sL]
  refine tV (i:=7) hHeld ?_;try simp only[Act.put,sL]
  refine wpAnyH_ready (rs:=[6]) (by kernel_rfl) (by simp) ?_;refine consL rfl (fun KK hKK=>?_) AllReadyH.nil;refine uV (by rfl) 115 [.tmp 47,.tmp 48] _ [.int .i32 s,.int .u8 x] _ (by rfl) (by rfl) (RQ _ _) (HKE.out _) ?_;rintro e w5 ⟨rfl,rfl⟩;refine⟨_,rfl,?_⟩;refine hKK.out _ _ hHeld (fun _=>?_);clear hKK KK;try simp only[Act.put,sL]
  refine wpAnyH_ready (rs:=[8]) (by kernel_rfl) (by simp) ?_;refine consL rfl (fun KK hKK=>?_) AllReadyH.nil;go_simp;refine hKK.out _ _ m4 (fun _=>?_);clear hKK KK;try simp only[Act.put,sL]
  refine wpAnyH_done (by kernel_rfl) ?_ _;go_wp2_with fail
  go_end0;refine⟨⟨_,rfl⟩,eb,cp,?_,(below_drewN HB4.out 1).trans HB5.out⟩;have:=HR5.out;rw[HKK.out] at this;exact this
 go_simp;refine hKK.out _ _ ⟨c0x,csx⟩ (fun _=>?_);clear hKK KK;try simp only[Act.put,sL]
 refine wpAnyH_ready (rs:=[4]) (by kernel_rfl) (by simp) ?_;refine consL rfl (fun KK hKK=>?_) AllReadyH.nil;go_simp;refine hKK.out _ _ ⟨c0x,csx⟩ (fun _=>?_);clear hKK KK;try simp only[Act.put,sL]
 refine wpAnyH_ready (rs:=[17]) (by kernel_rfl) (by simp) ?_;refine consL rfl (fun KK hKK=>?_) AllReadyH.nil
 refine kK _ (by rfl) _ _ _ (by rfl) B 202 i _ 3 12 underlying193 hi hz0 hz1 hz2 rfl (by omega) (.slice (some ⟨F.eb,0,none⟩) K F.ce) K (uk F.edv K 3) (by rfl) (by exact HOX.out) ⟨w.heap.size,0,none⟩ 1 1 [.int .i32 t,.int .i32 h,.int .u8 x] (by rfl) (by simp) (by exact HNW'.out) (by intro u hu;simp at hu;rcases hu with rfl | rfl | rfl <;> rfl) (by unfold maxLen;omega) (by omega) (by simp;omega) ?_
 intro ao cp w1 ho hg hat
 have HM:=HR.out.more (s:=s) (x:=x) (t:=t) (ao:=ao) (cap:=cp) HX.out hg;rw[<-HKK.out,<-HH.out] at HM;obtain⟨eb,rfl,hR2,hB2,e0,e1,es,ez⟩:=HM ho hat
 have k0:=e0.trans c0;have k1:=e1.trans c1;have ks:=(es _).trans cs;have HR2:Hid _:=hR2;have HB2:Hid _:=hB2;clear ho hg hat hR2 hB2 e0 e1 es HM;refine hKK.out _ _ ⟨k0,ks⟩ (fun hHeld5=>?_);clear hKK KK;try simp only[Act.put,sL]
 refine tZ (i:=18) hHeld5 ?_;try simp only[Act.put,sL]
 refine tZ (i:=19) hHeld5 ?_;try simp only[Act.put,sL]
 refine wpAnyH_ready (rs:=[20]) (by kernel_rfl) (by simp) ?_;refine consL rfl (fun KK hKK=>?_) AllReadyH.nil;go_simp;obtain⟨w2,HW2⟩:=nm_ (w1.setCell ⟨g,1,none⟩ (.slice (some ⟨eb,0,none⟩) (K+1:Nat) cp));rw[HW2.out] at HR2 HB2;have d0:=HR2.out.c0;have d2:=HR2.out.c2;have hs2:s<(F.more s x t eb cp).N:=by rw[HN.out] at hs;exact hs
 have ds:=HR2.out.st.cell hs2 (show 3<4 by omega);have fs:=HR2.out.st.frozen (s*4+3);have HR3:Hid _:=HR2.out.head K hs2;have dsv:(F.more s x t eb cp).stv s 3=.int .i32 h:=by rw[HH.out];rfl
 rw[dsv] at ds;simp only[Fn.more] at d0 d2 ds fs;rw[<-HN.out] at d0;refine hKK.out _ _ ⟨by rw[HW2.out];exact d0,by rw[HW2.out];exact ds⟩ (fun _=>?_);clear hKK KK;try simp only[Act.put,sL]
 rw[HW2.out];refine wpAnyH_done (by kernel_rfl) ?_ _;clear HW2 hHeld5 c0 c1 cs k0 k1 ks c0x c1x csx hHeld ez;go_wp2_with fail
 have HR4:Hid (Rep B (w2.setCell ⟨F.sb,s*4+3,none⟩ (.int .i32 K)) g ((F.more s x t eb cp).head s K)):=HR3.out.1;have HB4:Hid (Below B w (w2.setCell ⟨F.sb,s*4+3,none⟩ (.int .i32 K))):=HB2.out.trans HR3.out.2;obtain⟨w3,HW3⟩:=nm_ (w2.setCell ⟨F.sb,s*4+3,none⟩ (.int .i32 K));rw[HW3.out] at HR4 HB4 ⊢;clear HW3 HR3 HR2 HB2 d0 d2 ds fs
 have m2:w3.drew.cell? ⟨g,2,none⟩=some (.map (some F.mb)):=HR4.out.c2;obtain⟨w4,hr4,hR5,hB5,e5⟩:=(HR4.out.drewN 1).mapS (s:=s) (x:=x) (e:=K) (by omega) hx (by omega) (by show F.K+1<=_;rw[<-HKK.out];omega) (by have:=HR.out.mnl;show F.mn<F.K+1;omega);have HR5:Hid _:=hR5;have HB5:Hid _:=hB5;clear hR5 hB5
 have hr5:(Instr.mapUpdate 194 (.map (some F.mb)) (.int .u32 ((s*256+x:Nat):Int)) (.int .i32 K)).run prog w3.drew=.ok () w4:=hr4;have m4:w4.cell? ⟨g,2,none⟩=some (.map (some F.mb)):=e5.trans m2;clear hr4 e5;obtain⟨ky,HKY⟩:=nn_ ((s*256+x:Nat):Int);have HKE:Hid _:=fun w'=>RZ s x (by omega) hx w';rw[<-HKY.out] at HKE hr5
 refine wp_region_held_drew (S:=fun w'=>w'.cell? ⟨g,2,none⟩=some (.map (some F.mb))) (by kernel_rfl) m2 (fun hHeld=>?_);refine tV (i:=0) hHeld ?_;try simp only[Act.put,sL]
 refine tV (i:=1) hHeld ?_;try simp only[Act.put,sL]
 refine tV (i:=2) hHeld ?_;try simp only[Act.put,sL]
 refine tV (i:=3) hHeld ?_;try simp only[Act.put,sL]
 refine tV (i:=4) hHeld ?_;try simp only[Act.put,sL]
 refine tV (i:=5) hHeld ?_;try simp only[Act.put,sL]
 refine tV (i:=7) hHeld ?_;try simp only[Act.put,sL]
 refine wpAnyH_ready (rs:=[6]) (by kernel_rfl) (by simp) ?_;refine consL rfl (fun KK hKK=>?_) AllReadyH.nil;refine uV (by rfl) 115 [.tmp 47,.tmp 48] _ [.int .i32 s,.int .u8 x] _ (by rfl) (by rfl) (RQ _ _) (HKE.out _) ?_;rintro e w5 ⟨rfl,rfl⟩;refine⟨_,rfl,?_⟩;refine hKK.out _ _ hHeld (fun _=>?_);clear hKK KK;try simp only[Act.put,sL]
 refine wpAnyH_ready (rs:=[8]) (by kernel_rfl) (by simp) ?_;refine consL rfl (fun KK hKK=>?_) AllReadyH.nil;go_simp;refine hKK.out _ _ m4 (fun _=>?_);clear hKK KK;try simp only[Act.put,sL]
 refine wpAnyH_done (by kernel_rfl) ?_ _;go_wp2_with fail
 go_end0;refine⟨⟨_,rfl⟩,eb,cp,?_,(below_drewN HB4.out 1).trans HB5.out⟩;have:=HR5.out;rw[HKK.out] at this;exact this
theorem BK:∀ (M n:Nat) (f:Nat->Nat),(∀ i,i<n->f i<M)->(∀ i j,i<n->j<n->f i=f j->i=j)->n<=M
 | 0,n,f,h1,_=>by
  rcases Wx0 n with h | h
  ·omega
  ·have:=h1 0 h;omega
 | M+1,n,f,h1,h2=>by
  by_cases hx:∃ i,i<n/\f i=M
  ·obtain⟨i0,hi0,hf⟩:=hx
   have:=BK M (n-1) (fun i=>if i<i0 then f i else f (i+1)) (fun i hi=>by
    split
    ·rename_i hlt
     have h3:=h1 i (by omega)
     have h4:f i ≠ M:=fun e=>by have:=h2 i i0 (by omega) hi0 (by rw[e,hf]);omega
     omega
    ·have h3:=h1 (i+1) (by omega)
     have h4:f (i+1) ≠ M:=fun e=>by have:=h2 (i+1) i0 (by omega) hi0 (by rw[e,hf]);omega
     omega) (fun i j hi hj hij=>by
    split at hij <;> split at hij
    ·exact h2 i j (by omega) (by omega) hij
    ·have:=h2 i (j+1) (by omega) (by omega) hij;omega
    ·have:=h2 (i+1) j (by omega) (by omega) hij;omega
    ·have:=h2 (i+1) (j+1) (by omega) (by omega) hij;omega)
   omega
  ·have:=BK M n f (fun i hi=>by
    have h3:=h1 i hi
    have h4:f i ≠ M:=fun e=>hx ⟨i,hi,e⟩
    omega) h2
   omega
structure Gr (F:Fn):Prop where
 K1:1<=F.K
 g1:∀ s x,F.m s x ≠ 0->F.m s x<F.K/\F.src (F.m s x)=s/\F.by_ (F.m s x)=x
 g2:∀ e,0<e->e<F.K->F.src e<F.N/\F.by_ e<256/\F.to e<F.N/\F.m (F.src e) (F.by_ e)=e
 g3:∀ e,0<e->e<F.K->F.nx e<e/\(F.nx e ≠ 0->F.src (F.nx e)=F.src e)/\∀ e',F.nx e<e'->e'<e->F.src e' ≠ F.src e
 g4:∀ s,s<F.N->F.hd s<F.K/\(F.hd s ≠ 0->F.src (F.hd s)=s)/\∀ e',F.hd s<e'->e'<F.K->F.src e' ≠ s
 g5:F.to 0=0
theorem Gr.bound {F:Fn} (h:Gr F):F.K<=F.N*256+1:=by
 have:=BK (F.N*256) (F.K-1) (fun i=>F.src (i+1)*256+F.by_ (i+1)) (fun i hi=>by
  obtain⟨h1,h2,_⟩:=h.g2 (i+1) (by omega) (by omega);have:(F.src (i+1)+1)*256<=F.N*256:=Nat.mul_le_mul_right _ h1;omega) (fun i j hi hj hij=>by
  obtain⟨_,h2,_,h4⟩:=h.g2 (i+1) (by omega) (by omega);obtain⟨_,k2,_,k4⟩:=h.g2 (j+1) (by omega) (by omega);have e1:F.src (i+1)=F.src (j+1):=by omega
  have e2:F.by_ (i+1)=F.by_ (j+1):=by omega
  rw[e1,e2,k4] at h4;omega)
 omega
theorem Gr.m_out {F:Fn} (h:Gr F) {s:Nat} (hs:F.N<=s) (x:Nat):F.m s x=0:=by
 rcases Wx0 (F.m s x) with h0 | h0
 ·exact h0
 obtain⟨h1,h2,h3⟩:=h.g1 s x (by omega);have:=(h.g2 _ h0 h1).1;omega
def xj (F:Fn) (s:Nat) (b:Int):Option Nat:=if b<0 ∨ F.m s b.toNat=0 then none else some (F.to (F.m s b.toNat))
theorem Yj (F:Fn) (s x:Nat):xj F s x=if F.m s x=0 then none else some (F.to (F.m s x)):=by
 unfold xj;rw[Wz0];by_cases h:F.m s x=0
 ·simp[h]
 rw[if_neg (by omega),if_neg h]
theorem Gr.del_out {F:Fn} (h:Gr F) {s:Nat} (hs:F.N<=s) (b:Int):xj F s b=none:=by
 unfold xj;rw[if_pos (.inr (h.m_out hs _))]
theorem Gr.join {F:Fn} (h:Gr F) {s x t:Nat} (eb ce:Nat) (hs:s<F.N) (hx:x<256) (ht:t<F.N) (hm:F.m s x=0):Gr (F.join s x t eb ce):=by
 have hK:=h.K1;refine⟨?_,?_,?_,?_,?_,?_⟩
 ·show 1<=F.K+1;omega
 ·intro s' x';show (if s'=s/\x'=x then F.K else F.m s' x') ≠ 0->(if s'=s/\x'=x then F.K else F.m s' x')<F.K+1/\upd F.src F.K s (if s'=s/\x'=x then F.K else F.m s' x')=s'/\upd F.by_ F.K x (if s'=s/\x'=x then F.K else F.m s' x')=x';by_cases hq:s'=s/\x'=x
  ·rw[if_pos hq,upd_same,upd_same];intro _;exact⟨by omega,hq.1.symm,hq.2.symm⟩
  rw[if_neg hq];intro h0;obtain⟨h1,h2,h3⟩:=h.g1 s' x' h0;rw[upd_ne _ _ (by omega),upd_ne _ _ (by omega)];exact⟨by omega,h2,h3⟩
 ·intro e h0 he;show upd F.src F.K s e<F.N/\upd F.by_ F.K x e<256/\upd F.to F.K t e<F.N/\(if upd F.src F.K s e=s/\upd F.by_ F.K x e=x then F.K else F.m (upd F.src F.K s e) (upd F.by_ F.K x e))=e;have he':e<F.K+1:=he;by_cases hq:e=F.K
  ·subst hq;rw[upd_same,upd_same,upd_same,if_pos ⟨rfl,rfl⟩];exact⟨hs,hx,ht,rfl⟩
  rw[upd_ne _ _ hq,upd_ne _ _ hq,upd_ne _ _ hq];obtain⟨h1,h2,h3,h4⟩:=h.g2 e h0 (by omega);refine⟨h1,h2,h3,?_⟩;rw[if_neg (fun hc=>?_)]
  ·exact h4
  rw[hc.1,hc.2,hm] at h4;omega
 ·intro e h0 he;show upd F.nx F.K (F.hd s) e<e/\(upd F.nx F.K (F.hd s) e ≠ 0->upd F.src F.K s (upd F.nx F.K (F.hd s) e)=upd F.src F.K s e)/\∀ e',upd F.nx F.K (F.hd s) e<e'->e'<e->upd F.src F.K s e' ≠ upd F.src F.K s e;have he':e<F.K+1:=he;by_cases hq:e=F.K
  ·subst hq;obtain⟨h1,h2,h3⟩:=h.g4 s hs;rw[upd_same,upd_same];refine⟨h1,fun hn=>?_,fun e' a b=>?_⟩
   ·rw[upd_ne _ _ (by omega)];exact h2 hn
   rw[upd_ne _ _ (by omega)];exact h3 e' a b
  obtain⟨h1,h2,h3⟩:=h.g3 e h0 (by omega);rw[upd_ne _ _ hq,upd_ne F.src _ hq];refine⟨h1,fun hn=>?_,fun e' a b=>?_⟩
  ·rw[upd_ne _ _ (by omega)];exact h2 hn
  rw[upd_ne _ _ (by omega)];exact h3 e' a b
 ·intro s' hs';show upd F.hd s F.K s'<F.K+1/\(upd F.hd s F.K s' ≠ 0->upd F.src F.K s (upd F.hd s F.K s')=s')/\∀ e',upd F.hd s F.K s'<e'->e'<F.K+1->upd F.src F.K s e' ≠ s';by_cases hq:s'=s
  ·subst hq;rw[upd_same];exact⟨by omega,fun _=>by rw[upd_same],fun e' a b=>by omega⟩
  rw[upd_ne _ _ hq];obtain⟨h1,h2,h3⟩:=h.g4 s' hs';refine⟨by omega,fun hn=>?_,fun e' a b=>?_⟩
  ·rw[upd_ne _ _ (by omega)];exact h2 hn
  by_cases hK':e'=F.K
  ·rw[hK',upd_same];exact fun e=>hq e.symm
  rw[upd_ne _ _ hK'];exact h3 e' a (by omega)
 show upd F.to F.K t 0=0;rw[upd_ne _ _ (by omega)];exact h.g5
theorem Gr.join_del {F:Fn} (h:Gr F) {s x t:Nat} (eb ce:Nat) (s':Nat) (b:Int):xj (F.join s x t eb ce) s' b=if s'=s/\b=(x:Int) then some t else xj F s' b:=by
 have hK:=h.K1;unfold xj;show (if b<0 ∨ (if s'=s/\b.toNat=x then F.K else F.m s' b.toNat)=0 then none else some (upd F.to F.K t (if s'=s/\b.toNat=x then F.K else F.m s' b.toNat)))=_;by_cases hq:s'=s/\b=(x:Int)
 ·obtain⟨rfl,rfl⟩:=hq;rw[Wz0,if_pos (show s'=s'/\x=x from ⟨rfl,rfl⟩),if_neg (by omega),upd_same,if_pos ⟨rfl,rfl⟩]
 rw[if_neg hq];by_cases hb:b<0
 ·rw[if_pos (.inl hb),if_pos (.inl hb)]
 rw[if_neg (show ¬ (s'=s/\b.toNat=x) by omega)];by_cases h0:F.m s' b.toNat=0
 ·rw[if_pos (.inr h0),if_pos (.inr h0)]
 rw[if_neg (by omega),if_neg (by omega),upd_ne];have:=(h.g1 _ _ h0).1;omega
def Fn.retar (F:Fn) (e t:Nat):Fn:={ F with to:=upd F.to e t }
theorem Gr.retar {F:Fn} (h:Gr F) {e t:Nat} (he:0<e) (ht:t<F.N):Gr (F.retar e t):=by
 refine⟨h.K1,h.g1,fun e' h0 he'=>?_,h.g3,h.g4,?_⟩
 ·obtain⟨h1,h2,h3,h4⟩:=h.g2 e' h0 he';refine⟨h1,h2,?_,h4⟩;show upd F.to e t e'<F.N;by_cases hq:e'=e
  ·rw[hq,upd_same];exact ht
  rw[upd_ne _ _ hq];exact h3
 show upd F.to e t 0=0;rw[upd_ne _ _ (by omega)];exact h.g5
theorem Gr.retar_del {F:Fn} (h:Gr F) {s x:Nat} (t:Nat) (hm:F.m s x ≠ 0) (s':Nat) (b:Int):xj (F.retar (F.m s x) t) s' b=if s'=s/\b=(x:Int) then some t else xj F s' b:=by
 unfold xj;show (if b<0 ∨ F.m s' b.toNat=0 then none else some (upd F.to (F.m s x) t (F.m s' b.toNat)))=_;by_cases hq:s'=s/\b=(x:Int)
 ·obtain⟨rfl,rfl⟩:=hq;rw[Wz0,if_neg (by omega),upd_same,if_pos ⟨rfl,rfl⟩]
 rw[if_neg hq];by_cases hb:b<0
 ·rw[if_pos (.inl hb),if_pos (.inl hb)]
 by_cases h0:F.m s' b.toNat=0
 ·rw[if_pos (.inr h0),if_pos (.inr h0)]
 rw[if_neg (by omega),if_neg (by omega),upd_ne];intro e;obtain⟨_,a1,a2⟩:=h.g1 _ _ h0;obtain⟨_,b1,b2⟩:=h.g1 _ _ hm;rw[e] at a1 a2;exact hq ⟨by rw[<-a1,b1],by omega⟩
structure j6 (x fr to:Nat) (o:Option Nat) (F F':Fn):Prop where
 all:∀ P:Option Nat->Fn->Fn->Prop,(∀ F,P none F F)->(∀ F p,F.to (F.m p x) ≠ fr->P (some p) F F)->(∀ F p F',F.to (F.m p x)=fr->P (F.sh p) (F.retar (F.m p x) to) F'->P (some p) F F')->P o F F'
theorem j6.none {x fr to:Nat} (F:Fn):j6 x fr to Wx1 F F:=⟨fun _ h _ _=>h F⟩
theorem j6.stop {x fr to:Nat} (F:Fn) (p:Nat) (h:F.to (F.m p x) ≠ fr):j6 x fr to (some p) F F:=⟨fun _ _ k _=>k F p h⟩
theorem j6.go {x fr to:Nat} {F:Fn} {p:Nat} {F':Fn} (h1:F.to (F.m p x)=fr) (h2:j6 x fr to (F.sh p) (F.retar (F.m p x) to) F'):j6 x fr to (some p) F F' :=
 ⟨fun P a b c=>c F p F' h1 (h2.all P a b c)⟩
theorem j6.ind {x fr to:Nat} {motive:(o:Option Nat)->(F F':Fn)->j6 x fr to o F F'->Prop} (none:∀ (F:Fn),motive Wx1 F F (j6.none F))
  (stop:∀ (F:Fn) (p:Nat) (h:F.to (F.m p x) ≠ fr),motive (some p) F F (j6.stop F p h))
  (go:∀ {F:Fn} {p:Nat} {F':Fn} (h1:F.to (F.m p x)=fr) (h2:j6 x fr to (F.sh p) (F.retar (F.m p x) to) F'),motive (F.sh p) (F.retar (F.m p x) to) F' h2->motive (some p) F F' (j6.go h1 h2))
  {o:Option Nat} {F F':Fn} (h:j6 x fr to o F F'):motive o F F' h:=by
 have k:∃ h',motive o F F' h':=h.all (fun o F F'=>∃ h',motive o F F' h') (fun F=>⟨_,none F⟩) (fun F p h=>⟨_,stop F p h⟩) (fun F p F' h1 ⟨h2,m⟩=>⟨_,go h1 h2 m⟩);obtain⟨_,m⟩:=k;exact m
theorem j6.inv {x fr to:Nat} {F F':Fn} (h:j6 x fr to Wx1 F F'):F'=F :=
 h.all (fun o F F'=>o=Wx1->F'=F) (fun _ _=>rfl) (fun _ _ _ e=>by cases e) (fun _ _ _ _ _ e=>by cases e) rfl
structure x5 (F F':Fn):Prop where
 sb:F'.sb=F.sb
 mb:F'.mb=F.mb
 cs:F'.cs=F.cs
 N:F'.N=F.N
 last:F'.last=F.last
 lon:F'.lon=F.lon
 en:F'.en=F.en
 sh:F'.sh=F.sh
theorem x5.refl (F:Fn):x5 F F:=⟨rfl,rfl,rfl,rfl,rfl,rfl,rfl,rfl⟩
theorem x5.trans {F G H:Fn} (h:x5 F G) (k:x5 G H):x5 F H:=⟨k.sb.trans h.sb,k.mb.trans h.mb,k.cs.trans h.cs,k.N.trans h.N,k.last.trans h.last,k.lon.trans h.lon,k.en.trans h.en,k.sh.trans h.sh⟩
theorem x5.join (F:Fn) (s x t eb ce:Nat):x5 F (F.join s x t eb ce):=⟨rfl,rfl,rfl,rfl,rfl,rfl,rfl,rfl⟩
theorem x5.retar (F:Fn) (e t:Nat):x5 F (F.retar e t):=⟨rfl,rfl,rfl,rfl,rfl,rfl,rfl,rfl⟩
open Sam in
theorem zyw {t:List Int} {N:Nat} {wd:Nat->List Int} {sh:Nat->Option Nat} {en:Nat->Nat} {del:Nat->Int->Option Nat} {last:Nat} (A:Sam t N wd sh en del last) {x p to part:Nat} (hp:p<N) (hto:del p x=some to) (ht0:to ≠ 0)
  {o:Option Nat} {F F':Fn} (hL:j6 x to part o F F'):(∀ q,q<N->F.sh q=sh q ∨ q=to)->Gr F->part<F.N->∀ y,o=some y->y<N->wd y <:+ wd p->y ≠ to->(∀ q,q<N->(wd q).length<=(wd y).length->xj F q x=del q x) →
   (Gr F'/\x5 F F')/\∀ s b,xj F' s b=if b=(x:Int)/\s<N/\del s x=some to/\(wd s).length<=(wd y).length then some part else xj F s b:=by
 induction hL using j6.ind with
 | none F=>intro _ _ _ y hy;cases hy
 | stop F q hne =>
  intro hsh hG hpt y hy hyN hyp hyt hun;cases hy
  refine⟨⟨hG,x5.refl F⟩,fun s b=>?_⟩;rw[if_neg];rintro⟨_,h1,h2,h3⟩;have h4:=A.contig hp hto h1 h2 hyN hyp h3;rw[<-hun q hyN (WzV _),Yj] at h4;split at h4
  ·cases h4
  exact hne (Option.some.inj h4)
 | @go F q F' heq hrest ih =>
  intro hsh hG hpt y hy hyN hyp hyt hun;cases hy
  have hm:F.m q x ≠ 0:=by
   intro h0;rw[h0,hG.g5] at heq;exact ht0 heq.symm
  have hdq:del q x=some to:=by rw[<-hun q hyN (WzV _),Yj,if_neg hm,heq]
  have hG1:=hG.retar (e:=F.m q x) (t:=part) (by omega) hpt;have hsq:F.sh q=sh q:=by rcases hsh q hyN with h | h;exact h;exact absurd h hyt
  cases e:F.sh q with
  | none =>
   rw[e] at hrest;have hFF:=hrest.inv;subst hFF;refine⟨⟨hG1,x5.retar _ _ _⟩,fun s b=>?_⟩;rw[hG.retar_del _ hm];by_cases hc:s=q/\b=(x:Int)
   ·obtain⟨rfl,rfl⟩:=hc;rw[if_pos ⟨rfl,rfl⟩,if_pos ⟨rfl,hyN,hdq,WzV _⟩]
   rw[if_neg hc,if_neg];rintro⟨h0,h1,h2,h3⟩;rcases A.lead_or hp hto hyN hyp h1 h2 h3 with h | ⟨x',h,_⟩
   ·exact hc ⟨h,h0⟩
   rw[<-hsq,e] at h;cases h
  | some y' =>
   obtain⟨a1,a2,a3⟩:=A.sh_some hyN (show sh q=some y' by rw[<-hsq];exact e);have hwto:=(A.edge p x to hp hto).2.length_le;have hpl:=(a3.trans hyp).length_le;have hne':y' ≠ to:=by
    intro e;rw[e] at hpl;simp at hwto;omega
   obtain⟨⟨b1,b2⟩,b3⟩:=ih hsh hG1 hpt y' e a1 (a3.trans hyp) hne' (fun z hz hzl=>by
    rw[hG.retar_del _ hm,if_neg]
    ·exact hun z hz (by omega)
    rintro⟨rfl,_⟩;omega)
   refine⟨⟨b1,(x5.retar _ _ _).trans b2⟩,fun s b=>?_⟩;rw[b3 s b,hG.retar_del _ hm];by_cases hb:b=(x:Int)/\s<N/\del s x=some to
   ·obtain⟨h0,h1,h2⟩:=hb;by_cases hl:(wd s).length<=(wd q).length
    ·rw[if_pos (show b=(x:Int)/\s<N/\del s x=some to/\(wd s).length<=(wd q).length from ⟨h0,h1,h2,hl⟩)];rcases A.lead_or hp hto hyN hyp h1 h2 hl with h | ⟨x',h,h'⟩
     ·rw[if_neg (by rintro⟨_,_,_,h4⟩;rw[h] at h4;omega),if_pos ⟨h,h0⟩]
     rw[<-hsq,e] at h;cases h
     rw[if_pos ⟨h0,h1,h2,h'⟩]
    rw[if_neg (by rintro⟨_,_,_,h4⟩;omega),if_neg (by rintro⟨rfl,_⟩;omega),if_neg (by rintro⟨_,_,_,h4⟩;omega)]
   rw[if_neg (by rintro⟨h0,h1,h2,_⟩;exact hb ⟨h0,h1,h2⟩),if_neg (by
    rintro⟨rfl,h0⟩;exact hb ⟨h0,hyN,hdq⟩),if_neg (by rintro⟨h0,h1,h2,_⟩;exact hb ⟨h0,h1,h2⟩)]
structure Qw (F1 F:Fn) (part to e:Nat):Prop where
 gr:Gr F
 same:x5 F1 F
 Kle:F1.K<=F.K
 old:∀ e',e'<F1.K->F.to e'=F1.to e'/\F.nx e'=F1.nx e'/\F.by_ e'=F1.by_ e'/\F.src e'=F1.src e'
 mo:∀ s x,s ≠ part->F.m s x=F1.m s x
 done:∀ x,e<F1.m to x->F.m part x ≠ 0/\F.to (F.m part x)=F1.to (F1.m to x)
 rest:∀ x,F1.m to x<=e->F.m part x=0
theorem Qw.start {F1:Fn} (h:Gr F1) {part to:Nat} (hto:to<F1.N) (hpt:∀ x,F1.m part x=0):Qw F1 F1 part to (F1.hd to) :=
 ⟨h,x5.refl _,WzV _,fun _ _=>⟨rfl,rfl,rfl,rfl⟩,fun _ _ _=>rfl,fun x hx=>by
  exfalso
  obtain⟨_,_,h3⟩:=h.g4 to hto
  have h0:F1.m to x ≠ 0:=by omega
  obtain⟨a1,a2,_⟩:=h.g1 to x h0
  exact h3 _ hx a1 a2,fun x _=>hpt x⟩
theorem Qw.step {F1 F:Fn} (h1:Gr F1) {part to e:Nat} (h:Qw F1 F part to e) (hp:part<F1.N) (hpt:part ≠ to) (h0:0<e) (he:e<F1.K) (hs:F1.src e=to) (eb ce:Nat) :
  F.m part (F.by_ e)=0/\F.by_ e<256/\F.to e<F.N/\F.nx e=F1.nx e/\F1.nx e<e/\(F1.nx e ≠ 0->F1.src (F1.nx e)=to)/\Qw F1 (F.join part (F.by_ e) (F.to e) eb ce) part to (F1.nx e):=by
 obtain⟨o1,o2,o3,o4⟩:=h.old e he;obtain⟨a1,a2,a3,a4⟩:=h1.g2 e h0 he;obtain⟨b1,b2,b3⟩:=h1.g3 e h0 he;rw[hs] at a4;have hz:F.m part (F.by_ e)=0:=by rw[o3];exact h.rest _ (by rw[a4];exact WzV _)
 have hby:F.by_ e<256:=by rw[o3];exact a2
 have hto:F.to e<F.N:=by rw[o1,h.same.N];exact a3
 have hK1:=h.gr.K1;have hKl:=h.Kle;refine⟨hz,hby,hto,o2,b1,fun hn=>by rw[<-hs];exact b2 hn,?_⟩;refine⟨h.gr.join eb ce (by rw[h.same.N];exact hp) hby hto hz,h.same.trans (x5.join _ _ _ _ _ _),?_,?_,?_,?_,?_⟩
 ·show F1.K<=F.K+1;omega
 ·intro e' he';show upd F.to F.K (F.to e) e'=F1.to e'/\upd F.nx F.K (F.hd part) e'=F1.nx e'/\upd F.by_ F.K (F.by_ e) e'=F1.by_ e'/\upd F.src F.K part e'=F1.src e';rw[upd_ne _ _ (by omega),upd_ne _ _ (by omega),upd_ne _ _ (by omega),upd_ne _ _ (by omega)];exact h.old e' he'
 ·intro s x hsx;show (if s=part/\x=F.by_ e then F.K else F.m s x)=F1.m s x;rw[if_neg (fun hc=>hsx hc.1)];exact h.mo s x hsx
 ·intro x hx;show (if part=part/\x=F.by_ e then F.K else F.m part x) ≠ 0/\upd F.to F.K (F.to e) (if part=part/\x=F.by_ e then F.K else F.m part x)=F1.to (F1.m to x);by_cases hq:x=F.by_ e
  ·rw[if_pos ⟨rfl,hq⟩,upd_same,hq,o3,a4];exact⟨by omega,o1⟩
  rw[if_neg (fun hc=>hq hc.2)];have hgt:e<F1.m to x:=by
   rcases Nat.lt_trichotomy e (F1.m to x) with g | g | g
   ·exact g
   ·exfalso;have hn:F1.m to x ≠ 0:=(by omega);have:=(h1.g1 to x hn).2.2;rw[<-g,<-o3] at this;exact hq this.symm
   exfalso;have hn:F1.m to x ≠ 0:=(by omega);have:=(h1.g1 to x hn).2.1;exact b3 _ hx g (by rw[this,hs])
  obtain⟨d1,d2⟩:=h.done x hgt;have:=(h.gr.g1 part x d1).1;rw[upd_ne _ _ (by omega)];exact⟨d1,d2⟩
 intro x hx;show (if part=part/\x=F.by_ e then F.K else F.m part x)=0;rw[if_neg]
 ·exact h.rest x (by omega)
 rintro⟨_,rfl⟩;rw[o3,a4] at hx;omega
theorem Qw.del {F1 F:Fn} {part to:Nat} (h:Qw F1 F part to 0) (h1:Gr F1) (s:Nat) (b:Int):xj F s b=if s=part then xj F1 to b else xj F1 s b:=by
 unfold xj;by_cases hs:s=part
 ·subst hs;rw[if_pos rfl];by_cases hb:b<0
  ·rw[if_pos (.inl hb),if_pos (.inl hb)]
  by_cases hm:F1.m to b.toNat=0
  ·rw[if_pos (show b<0 ∨ F.m s b.toNat=0 from .inr (h.rest _ (by omega))),if_pos (.inr hm)]
  obtain⟨d1,d2⟩:=h.done b.toNat (by omega);rw[if_neg (by omega),if_neg (by omega),d2]
 rw[if_neg hs,h.mo s _ hs];by_cases hb:b<0
 ·rw[if_pos (.inl hb),if_pos (.inl hb)]
 by_cases hm:F1.m s b.toNat=0
 ·rw[if_pos (.inr hm),if_pos (.inr hm)]
 rw[if_neg (by omega),if_neg (by omega)];have:=(h1.g1 s _ hm).1;rw[(h.old _ this).1]
theorem Rep.retar {B g:Nat} {w:World} {F:Fn} (h:Rep B w g F) {e:Nat} (t:Nat) (he:e<F.K):Rep B (w.setCell ⟨F.eb,e*3,none⟩ (.int .i32 t)) g (F.retar e t)/\Below B w (w.setCell ⟨F.eb,e*3,none⟩ (.int .i32 t)):=by
 obtain⟨a1,a2,a3,a4,a5,a6⟩:=h.ap;have f1:∀ k,k ≠ F.eb->(w.setCell ⟨F.eb,e*3,none⟩ (.int .i32 t)).heap[k]? = w.heap[k]? := fun k hk=>Below.heap_setCell w _ _ k hk;have hr:=h.ed.set he (show 0<3 by omega) (.int .i32 t);rw[WzX] at hr
 refine⟨⟨(f1 g a2).trans h.fin,h.st.kept (f1 _ a4),hr.congr (fun s' k' hs' hk'=>?_),h.mp.kept (f1 _ (Ne.symm a6)),h.Bg,h.Bs,h.Be,h.Bm,h.csl,h.mnl⟩,(Below.refl _ _).setCell h.Be _⟩;by_cases hq:s'=e/\k'=0
 ·obtain⟨rfl,rfl⟩:=hq;simp[Fn.edv,Fn.retar,upd]
 rw[if_neg hq];have hk:k'=0 ∨ k'=1 ∨ k'=2:=by omega
 rcases hk with rfl | rfl | rfl
 ·have hne:s' ≠ e:=fun e=>hq ⟨e,rfl⟩;simp[Fn.edv,Fn.retar,upd,hne]
 ·rfl
 rfl
def mu (F:Fn):Option Nat->Nat
 | none=>0
 | some q=>F.lon q+1
set_option maxRecDepth 10000 in
theorem zyy {B g:Nat} {F:Fn} (o0:Option Nat) (x fr to:Nat) (hx:x<256) (w:World) (hR:Rep B w g F) (hG:Gr F) (hto:to<F.N) (hch:∀ q p,q<F.N->F.sh q=some p->p<F.N/\F.lon p<F.lon q) (ho:∀ q,o0=some q->q<F.N) (hf0:fr ≠ 0) (hfr:fr<300000) :
  Calls prog 134 #[.pointer (some ⟨g,0,none⟩),.int .i32 (shI o0),.int .u8 x,.int .i32 fr,.int .i32 to] w fun e w'=>(∃ v,e=.returned v)/\∃ F',j6 x fr to o0 F F'/\Rep B w' g F'/\Below B w w':=by
 have HCH:Hid _:=hch;have hNl:=hR.st.le;have hcl:=hR.csl;have hN:F.N<=300000:=by omega
 clear hNl hcl hch;go_enter func134,ntmps134;go_wp2_with fail
 go_loopg [1] (mu F o0) (fun k v wr=>∃ (o:Option Nat) (Fc:Fn),v=.int .i32 (shI o)/\k=mu F o/\Hid (Rep B wr g Fc)/\Hid (Gr Fc)/\Hid (Below B w wr)/\Hid (x5 F Fc)/\Hid (∀ q,o=some q->q<F.N)/\Hid (∀ F',j6 x fr to o Fc F'->j6 x fr to o0 F F'));case atStart=>exact⟨o0,F,rfl,rfl,hR,hG,Below.refl _ _,x5.refl _,ho,fun _ h=>h⟩
 obtain⟨o,Fc,rfl,hk,HR,HG,HB,HS,HO,HL⟩:=hrel;cases o with
 | none =>
  simp only[shI];go_wp2_with fail
  go_end0;exact⟨⟨_,rfl⟩,Fc,HL.out _ (.none _),HR.out,HB.out⟩
 | some q =>
  have hq:=HO.out q rfl;have hqN:q<300000:=by omega
  have hqI:¬ (q:Int) = -1:=by omega
  have E:=Vz q x (by omega) hx wr HR.out;obtain⟨e,HE⟩:=nn_ (Fc.m q x);rw[<-HE.out] at E;have heK:e<Fc.K:=by
   rw[HE.out];by_cases h0:Fc.m q x=0
   ·rw[h0];exact HG.out.K1
   exact(HG.out.g1 _ _ h0).1
  have hKb:Fc.K<=100000000:=by have:=HG.out.bound;rw[HS.out.N] at this;omega
  have c1:=HR.out.c1;have ce:=HR.out.ed.cell heK (show 0<3 by omega);have fe:=HR.out.ed.frozen (e*3);rw[WzX] at ce;obtain⟨te,HTE⟩:=nn_ (Fc.to e);have cev:Fc.edv e 0=.int .i32 te:=by rw[HTE.out];rfl
  rw[cev] at ce;clear cev;obtain⟨K,HK⟩:∃ K,Hid (K=Fc.K):=⟨_,rfl⟩;rw[<-HK.out] at heK hKb c1;simp only[shI];by_cases hte:te=fr;rotate_left
  ·have htI:¬ (te:Int)=fr:=(by omega);go_wp2_with (go_at_call 102;refine E.mono ?_;clear E;rintro ev w1 ⟨rfl,nq,rfl⟩)
   refine bodyPost_ret (results_none rfl _ _ _) rfl ?_;exact⟨⟨_,rfl⟩,Fc,HL.out _ (.stop _ _ (by rw[<-HE.out,<-HTE.out];exact hte)),HR.out.drewN nq,below_drewN HB.out nq⟩
  have HRT:Hid (∀ n,Rep B ((wr.drewN n).setCell ⟨Fc.eb,e*3,none⟩ (.int .i32 to)) g (Fc.retar e to)):=fun n=>((HR.out.drewN n).retar to (e:=e) (by rw[<-HK.out];exact heK)).1;have hq2:q<(Fc.retar e to).N:=by show q<Fc.N;rw[HS.out.N];exact hq
  obtain⟨so,HSO⟩:=nn_ (Fc.sh q);have csv:(Fc.retar e to).stv q 1=.int .i32 (shI so):=by rw[HSO.out];rfl
  obtain⟨N,HN⟩:∃ N,Hid (N=Fc.N):=⟨_,rfl⟩;have c0':∀ n,((wr.drewN n).setCell ⟨Fc.eb,e*3,none⟩ (.int .i32 to)).cell? ⟨g,0,none⟩=some (.slice (some ⟨Fc.sb,0,none⟩) N Fc.cs):=fun n=>by rw[HN.out];exact(HRT.out n).c0
  have cs':∀ n,((wr.drewN n).setCell ⟨Fc.eb,e*3,none⟩ (.int .i32 to)).cell? ⟨Fc.sb,q*4+1,none⟩=some (.int .i32 (shI so)):=fun n=>by rw[<-csv];exact(HRT.out n).st.cell hq2 (show 1<4 by omega)
  have hqN2:q<N:=by rw[HN.out,HS.out.N];exact hq
  have hN3:N<=300000:=by rw[HN.out,HS.out.N];exact hN
  have htI:(te:Int)=fr:=by omega
  subst hte;clear csv htI;go_wp2_with (go_at_call 102;refine E.mono ?_;clear E;rintro ev w1 ⟨rfl,nq,rfl⟩)
  go_roundg (mu F so);case measure =>
   rw[hk];cases so with
   | none=>simp[mu]
   | some p =>
    have:=HCH.out q p hq (by rw[<-HS.out.sh];exact HSO.out.symm);simp[mu];omega
  case rel =>
  refine⟨so,Fc.retar e to,rfl,rfl,HRT.out nq,?_,?_,?_,?_,?_⟩
  ·refine HG.out.retar ?_ (by rw[HS.out.N];exact hto);rcases Wx0 e with h | h
   ·exfalso;rw[h,HG.out.g5] at HTE;exact hf0 HTE.out
   exact h
  ·exact HB.out.trans (below_drewN (Below.refl _ _) nq) |>.trans ((HR.out.drewN nq).retar to (by rw[<-HK.out];exact heK)).2
  ·exact HS.out.trans (x5.retar _ _ _)
  ·intro p hp;exact(HCH.out q p hq (by rw[<-HS.out.sh,<-HSO.out];exact hp)).1
  intro F' hF';refine HL.out F' (.go (by rw[<-HE.out];exact HTE.out.symm) ?_);rw[<-HSO.out,<-HE.out];exact hF'
end Go.Proofs.YtiaaekdpfpaigaaGreatDoor.Dl
