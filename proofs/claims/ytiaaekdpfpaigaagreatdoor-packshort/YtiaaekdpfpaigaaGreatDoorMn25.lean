import Derived.Test.YtiaaekdpfpaigaaGreatDoorMn24
import Derived.Test.YtiaaekdpfpaigaaGreatDoorMn23
set_option linter.unusedSimpArgs false
set_option linter.unusedVariables false
set_option maxRecDepth 20000
set_option maxHeartbeats 4000000
open Array renaming replicate_succ->WxY,replicate_zero->Wv0
open List renaming append_assoc->Wz1,append_inj'->Wv7,append_toArray->Wv1,cons_append->Wz3,length_append->Wz6,length_cons->Wz7,length_drop->Wz8,length_nil->Wv3,map_cons->Wxj,map_nil->Wxk,map_toArray->Wxy,mem_append->WqX,nil_append->Wzx,push_toArray->Wv4,size_toArray->WqW
open Nat renaming add_assoc->WzQ,add_zero->WzX,le_refl->WzV,le_trans->Wqx,lt_of_lt_of_le->Wqj,lt_or_ge->WzW,reduceAdd->Wq3,reduceSub->Wv6
namespace Go.Proofs.YtiaaekdpfpaigaaGreatDoor.Dl
open Go.Proofs.Tryz
open Go.RowKit Go.Shelf Plain
attribute [local go_sem] Oper.semAt_some
theorem zzk (n:Nat) (a1 a2:Option Addr) (n1 c1 n2 c2:Nat) (w:World) :
  CallsIn Fence.wide n prog 110 #[.slice a1 n1 c1,.slice a2 n2 c2] w fun e w'=>e=.returned (.func (.func 128) #[] #[.pointer (some ⟨w.heap.size+1,0,none⟩),.pointer (some ⟨w.heap.size,0,none⟩)])/\w'=(w.alloc (.cells #[.slice a1 n1 c1] 22)).alloc (.cells #[.slice a2 n2 c2] 22):=by
 refine callsIn_of_wp func110 rfl trivial ?_ rfl;simp only[ntmps110,WqW,Wz7,Wv3,Wq3,Wv6,WxY,Wv0,Wv4,Wv1,Wzx,Wz3];gi_wp2;go_ret;exact⟨rfl,rfl⟩
theorem zzv (n:Nat) (hn:1<=n) (w wL:World) (Bst Bba:Nat) (a0 as_:Option Addr) (cap0 cs:Nat) (base bs:List Int) (hSb:Sl w a0 cap0 base) (hSs:Sl w as_ cs bs) (hz:IsB bs) (hlb:base.length<=400000) (hls:bs.length<=400000)
  (hW:Below w.heap.size w wL) (hb1:Bst<wL.heap.size) (hb2:Bba<wL.heap.size) (hst:wL.cell? ⟨Bst,0,none⟩=some (.slice as_ bs.length cs)) (hba:wL.cell? ⟨Bba,0,none⟩=some (.slice a0 base.length cap0)) :
  SeqStopsK Fence.wide n prog 128 #[.pointer (some ⟨Bst,0,none⟩),.pointer (some ⟨Bba,0,none⟩)] (fun x:Itm w=>x.enc) (Kp w Bba) (SAll w base bs) (zvv w base bs) (bs.length+1) wL:=fun l J Jx W hWL _ _ hY h0 =>
 qz6 n hn w l Bst Bba a0 as_ cap0 cs base bs hSb hSs hz hlb hls J Jx hY W (hW.trans (hWL.mono hW.size)) ((hWL.cell (p:=⟨Bst,0,none⟩) hb1).trans hst) ((hWL.cell (p:=⟨Bba,0,none⟩) hb2).trans hba) h0
theorem results97:f97.results=#[.cell 4 22,.cell 5 35]:=by kernel_rfl
theorem V0 {fn:Func} {p q:Tmp} (h:fn.results=#[.cell p 22,.cell q 35]) (tmps:Array Value) (w:World) (b c:Nat) (x y:Value) (hp:tmps.getD p undef=.pointer (some ⟨b,0,none⟩)) (hq:tmps.getD q undef=.pointer (some ⟨c,0,none⟩)) (hx:w.cell? ⟨b,0,none⟩=some x) (hy:w.cell? ⟨c,0,none⟩=some y) :
  (results fn tmps).run prog w=.ok (.tuple #[x,y]) w:=by
 have hp':tmps[p]?.getD undef=.pointer (some ⟨b,0,none⟩):=by simpa using hp
 have hq':tmps[q]?.getD undef=.pointer (some ⟨c,0,none⟩):=by simpa using hq
 simp[results,h,hp',hq',asAddr,loadVar,isAgg,underlying,underlying22,underlying35,hx,hy]
def PostA (w:World) (r:Option (List Int)) (ev:Ending) (w':World):Prop :=
 Below w.heap.size w w'/\match r with
 | none=>ev=.returned (.tuple #[.slice none 0 0,.iface 42 (.int .i64 30)])
 | some out=>∃ v,ev=.returned (.tuple #[v,.nilIface])/\w'.ownsRow w.heap.size 5 1 v out.length (out.map (Value.int .u8))
theorem AW (a0 ad:Option Addr) (cap0 cd:Nat) (base d:List Int) (w:World) (hzd:IsB d) (hlb:base.length<=400000) (hld:d.length<=400000) (hSd:Sl w ad cd d) (hn:szs d=none) :
  Calls prog 97 #[.slice a0 base.length cap0,.slice ad d.length cd] w (PostA w none):=by
 have R1:∀ w',_:=fun (w':World) (hB:Below w.heap.size w w')=>Z1 ad cd d w' hzd hld (hSd.below hB);rw[hn] at R1;have HB:Hid (Below w.heap.size w ((w.alloc (.cells #[.slice none 0 0] 22)).alloc (.cells #[.nilIface] 35))):=((Below.refl _ w).alloc (WzV _) _).alloc (by simp) _;go_enter func97,ntmps97
 go_wp2_with (go_at_call 109;refine(R1 _ HB.out).mono ?_;clear R1;rintro ev w1 ⟨rfl,q,rfl⟩)
 refine bodyPost_ret (V0 results97 _ _ w.heap.size (w.heap.size+1) (.slice none 0 0) (.iface 42 (.int .i64 30)) rfl rfl (by simp[go_sem]) (by simp[go_sem])) rfl ⟨?_,rfl⟩;exact(((below_drewN HB.out q).setCell (WzV _) _).setCell (by simp) _).alloc (by simp;omega) _
theorem zzw (a0 ad:Option Addr) (cap0 cd:Nat) (base d:List Int) (w:World) (hzd:IsB d) (hlb:base.length<=400000) (hld:d.length<=400000) (hSd:Sl w ad cd d) (n m:Nat) (r:List Int) (hn:szs d=some (n,m,r)) (hbad:¬ n=base.length ∨ 100000<m) :
  Calls prog 97 #[.slice a0 base.length cap0,.slice ad d.length cd] w (PostA w none):=by
 have R1:∀ w',_:=fun (w':World) (hB:Below w.heap.size w w')=>Z1 ad cd d w' hzd hld (hSd.below hB);rw[hn] at R1;have HB:Hid (Below w.heap.size w ((w.alloc (.cells #[.slice none 0 0] 22)).alloc (.cells #[.nilIface] 35))):=((Below.refl _ w).alloc (WzV _) _).alloc (by simp) _;obtain⟨L0,HL0⟩:=nn_ base.length;rw[<-HL0.out] at hbad hlb ⊢
 have hcc:¬ (n:Int)=(L0:Int) ∨ ((n:Int)=(L0:Int)/\(100000:Int)<(m:Int)):=by omega
 rcases hcc with h1 | ⟨h1,h2⟩;all_goals
  go_enter func97,ntmps97;go_wp2_with (go_at_call 109;refine(R1 _ HB.out).mono ?_;clear R1;rintro ev w1 ⟨a1,cap1,q,rfl,rfl,hS1,hn1,hn2⟩)
  refine bodyPost_ret (V0 results97 _ _ w.heap.size (w.heap.size+1) (.slice none 0 0) (.iface 42 (.int .i64 30)) rfl rfl (by simp[go_sem]) (by simp[go_sem])) rfl ⟨?_,rfl⟩;first
   | exact(((below_drewN HB.out q).setCell (WzV _) _).setCell (by simp) _).alloc (by simp;omega) _
   | exact(((below_drewN HB.out q).alloc (by simp;omega) _).setCell (by simp) _).setCell (by simp) _
end Go.Proofs.YtiaaekdpfpaigaaGreatDoor.Dl
namespace Go.Proofs.YtiaaekdpfpaigaaGreatDoor.Dl
open Go.Proofs.Tryz
open Go.RowKit Go.Shelf Plain
structure ApI (w wE:World) (s m:Nat) (pre:List (Itm wE)) (W:World):Prop where
 r0:Boxed W s 22 (.slice none 0 0)
 r1:Boxed W (s+1) 35 .nilIface
 mks:Boxed W (s+1+1) 3 (.int .i64 m)
 out:Boxed W (s+1+1+1+1) 22 (.slice (some ⟨s+1+1+1,0,none⟩) (flat pre).length m)
 row:W.ownsRow s 5 1 (.slice (some ⟨s+1+1+1,0,none⟩) (flat pre).length m) (flat pre).length ((flat pre).map (Value.int .u8))
 le:(flat pre).length<=m
 ok:∀ x ∈ pre,x.ok=true
 lt:s+1+1+1+1+1<W.heap.size
 b1:Below w.heap.size w W
 b2:Below wE.heap.size wE W
structure ApX (w wE:World) (s m:Nat) (c:Code) (pre:List (Itm wE)) (W:World):Prop where
 ret:c=.ret
 why:∃ p x,pre=p++[x]/\(flat p).length<=m/\(∀ y ∈ p,y.ok=true)/\(x.ok=false ∨ m<(flat p).length+x.c.length)
 r0:Boxed W s 22 (.slice none 0 0)
 r1:Boxed W (s+1) 35 (.iface 42 (.int .i64 30))
 b1:Below w.heap.size w W
theorem uY {A B:World} {row:Option Nat} {k t:Nat} {v:Value} (h:Boxed A k t v) (hg:A.grownBy B row) (hr:∀ r,row=some r->∃ o:Obj,A.heap[r]? = some o/\o.isCells=false):Boxed B k t v :=
 h.kept hg (fun e'=>by obtain⟨o,ho,hc⟩:=hr k e'.symm;rw[show A.heap[k]? = _ from h] at ho;cases ho;cases hc)
theorem zvw {A B:World} {row:Option Nat} {base e size k:Nat} {v:Value} {xs:List Value} (h:A.ownsRow base e size v k xs) (hg:A.grownBy B row) (hr:∀ r,row=some r->∃ o:Obj,A.heap[r]? = some o/\o.isCells=false):B.ownsRow base e size v k xs:=by
 refine h.kept hg ?_;rcases h.2 with ⟨rfl,_⟩ | ⟨g,cap,cur,rfl,_,hgb,_⟩
 ·exact .inl rfl
 refine .inr fun e'=>?_;obtain⟨o,ho,hc⟩:=hr g (by simpa [Value.ownBlock] using e'.symm);rw[hgb] at ho;cases ho;cases hc
theorem ApI.own (w wE:World) (m B:Nat) (h1:w.heap.size<=B) (h2:wE.heap.size<=B) (s:Nat):OwnFrom B (ApI w wE s m):=fun pre X Y row h hg hr =>
 ⟨uY h.r0 hg (fun r e=>(hr r e).2),uY h.r1 hg (fun r e=>(hr r e).2),uY h.mks hg (fun r e=>(hr r e).2),uY h.out hg (fun r e=>(hr r e).2),zvw h.row hg (fun r e=>(hr r e).2),h.le,h.ok,Wqj h.lt hg.size,
  ownFrom_below (β:=Unit) (WzV _) h1 () X Y row h.b1 hg hr,ownFrom_below (β:=Unit) (WzV _) h2 () X Y row h.b2 hg hr⟩
theorem ApX.own (w wE:World) (m B:Nat) (h1:w.heap.size<=B) (s:Nat) (c:Code):OwnFrom B (ApX w wE s m c):=fun pre X Y row h hg hr =>
 ⟨h.ret,h.why,uY h.r0 hg (fun r e=>(hr r e).2),uY h.r1 hg (fun r e=>(hr r e).2),ownFrom_below (β:=Unit) (WzV _) h1 () X Y row h.b1 hg hr⟩
theorem kp_t {w:World} {b:Nat} {A B C:World} (h:Kp w b A B) (k:Kp w b B C):Kp w b A C:=⟨h.1.trans k.1,k.2.trans h.2⟩
theorem kp_b {w wL:World} {b:Nat} (h1:w.heap.size<=wL.heap.size) (h2:b<wL.heap.size) (W:World) (l:Nat) (o o':Obj) (hl:wL.heap.size<=l) (h:W.heap[l]? = some o) (hc:o.isCells=false) (hw:o.isWalk=false):Kp w b W (W.putObj l o') :=
 ⟨belowK_b h1 W l o o' hl h hc hw,World.putObj_heap_other (by omega)⟩
theorem ApI.ended {w wE:World} {s m:Nat} {base r:List Int} {xs:List (Itm wE)} {W:World} (h:ApI w wE s m xs W) (hS:SAll wE base r xs):Z7 base m r []=if (flat xs).length=m then some (flat xs) else none:=by
 rcases hS with hS | ⟨p,r',_,_,_,rfl⟩
 ·exact hS.end_ m h.le
 have:=h.ok (Itm.bad wE) (by simp);cases this
theorem ApX.ended {w wE:World} {s m:Nat} {base r:List Int} {c:Code} {pre:List (Itm wE)} {W:World} (h:ApX w wE s m c pre W) (hS:zvv wE base r pre):Z7 base m r []=none:=by
 obtain⟨p,x,rfl,h1,h2,h3⟩:=h.why;rcases hS with ⟨p',x',r1,r2,hs,hr,hst,hok,he⟩ | ⟨p',r1,hs,hr,hst,he⟩
 ·obtain⟨rfl,hx⟩:=Wv7 he rfl;simp only[List.cons.injEq,and_true] at hx;subst hx;rcases h3 with h3 | h3
  ·rw[hok] at h3;cases h3
  exact hs.long m h1 hr hst h3
 obtain⟨rfl,hx⟩:=Wv7 he rfl;exact hs.none_ m h1 hr hst
theorem ApI.more {w wE:World} {s m:Nat} {pre:List (Itm wE)} {x:Itm wE} {W w1:World} (hs:w.heap.size=s) (hE:wE.heap.size=s+2) (h:ApI w wE s m pre W) (hx:x.ok=true) (hl:(flat pre).length+x.c.length<=m)
  (ho:w1.ownsRow s 5 1 (.slice (some ⟨s+1+1+1,0,none⟩) ((flat pre).length+x.c.length) m) ((flat pre).length+x.c.length) ((flat pre).map (Value.int .u8)++x.c.map (Value.int .u8))) (hg:W.grownBy w1 (some (s+1+1+1))) :
  Boxed w1 (s+1+1+1+1) 22 (.slice (some ⟨s+1+1+1,0,none⟩) (flat pre).length m)/\(∀ B,KeepsFrom B W (w1.setCell ⟨s+1+1+1+1,0,none⟩ (.slice (some ⟨s+1+1+1,0,none⟩) ((flat pre).length+x.c.length) m)))/\Kp wE (s+1+1+1+1+1) W (w1.setCell ⟨s+1+1+1+1,0,none⟩ (.slice (some ⟨s+1+1+1,0,none⟩) ((flat pre).length+x.c.length) m))/\ApI w wE s m (pre++[x]) (w1.setCell ⟨s+1+1+1+1,0,none⟩ (.slice (some ⟨s+1+1+1,0,none⟩) ((flat pre).length+x.c.length) m)):=by
 have hk:∀ {k t v},Boxed W k t v->k ≠ s+1+1+1->Boxed w1 k t v:=fun h hne=>h.kept hg (fun e=>hne (by cases e;rfl));have hbx:=hk h.out (by omega);have hWs:=h.b2.size;have e1:(flat pre).length+x.c.length=(flat (pre++[x])).length:=by rw[X8];simp
 have e2:(flat pre).map (Value.int .u8)++x.c.map (Value.int .u8)=(flat (pre++[x])).map (Value.int .u8):=by rw[X8];simp
 refine⟨hbx,fun B=>?_,?_,?_⟩
 ·refine((KeepsOthers.of_grownBy hg fun j o ej hj=>?_).trans (KeepsOthers.setCell _ _ _)).from B;rcases h.row.2 with ⟨e,_⟩ | ⟨g,cap,cur,e,_,hgb,_⟩
  ·cases e
  cases e;cases ej
  rw[hgb] at hj;cases hj;rfl
 ·refine⟨((Below.refl _ W).grown hg hWs (fun k e=>by cases e;omega)).setCell (by show wE.heap.size<=s+1+1+1+1;omega) _,?_⟩;rw[Below.heap_setCell _ _ _ _ (by show s+1+1+1+1+1 ≠ s+1+1+1+1;omega)];exact hg.block _ h.lt (by simp;omega)
 rw[e1,e2] at ho;rw[e1];exact⟨(hk h.r0 (by omega)).other (by omega) _,(hk h.r1 (by omega)).other (by omega) _,(hk h.mks (by omega)).other (by omega) _,hbx.set _,ho.kept (grownBy_setCell' _ _ _) (.inr (by simp[Value.ownBlock])),by omega,
  fun y hy=>(WqX.1 hy).elim (h.ok y) (fun h1=>by simp at h1;rw[h1];exact hx),
  Wqj h.lt (Wqx hg.size (grownBy_setCell' _ _ _).size),
  (h.b1.grown hg h.b1.size (fun k e=>by cases e;omega)).setCell (by show w.heap.size<=s+1+1+1+1;omega) _,
  (h.b2.grown hg hWs (fun k e=>by cases e;omega)).setCell (by show wE.heap.size<=s+1+1+1+1;omega) _⟩
attribute [local go_sem] Oper.semAt_some
theorem info5':(prog.info? 5).map (fun i=>(i.zero,i.size,i.bytes))=some (some (.int .u8 0),1,1):=by kernel_rfl
theorem AY (tmps:Array Value) (W:World) (D s:Nat) (v0 v1:Value) (h4:tmps.getD 4 undef=.pointer (some ⟨s,0,none⟩)) (h5:tmps.getD 5 undef=.pointer (some ⟨s+1,0,none⟩)) (hr0:Boxed W s 22 v0) (hr1:Boxed W (s+1) 35 v1) (hK:W.heap[D]? = some (.deferred (some [])))
  (R:Ending->World->Prop) (hR:R (.returned (.tuple #[v0,v1])) (W.putObj D (.deferred none))):bodyPostM Fence.wide 3 prog f97 R .ret { tmps:=tmps,defers:=[{ target:=.collected D,args:=#[] }] } W:=by
 refine⟨by simp,.inl ⟨_,_,rfl,run_takeDeferred hK,?_⟩⟩;have hr:∀ r,some D=some r->∃ o:Obj,W.heap[r]? = some o/\o.isCells=false:=fun r e=>by cases e;exact⟨_,hK,rfl⟩
 exact⟨_,V0 results97 _ _ s (s+1) v0 v1 h4 h5 (cell_kept hr0.cell (grownBy_putObj' _ D (.deferred none)) hr) (cell_kept hr1.cell (grownBy_putObj' _ D (.deferred none)) hr),hR⟩
set_option maxRecDepth 100000 in
theorem E4 (a0 ad:Option Addr) (cap0 cd:Nat) (base d:List Int) (w:World) (hzd:IsB d) (hlb:base.length<=400000) (hld:d.length<=400000) (hSb:Sl w a0 cap0 base) (hSd:Sl w ad cd d) (m:Nat) (r:List Int) (hn:szs d=some (base.length,m,r)) (hm:m<=100000) (hrB:IsB r) (hrl:r.length<=d.length) :
  Calls prog 97 #[.slice a0 base.length cap0,.slice ad d.length cd] w (PostA w (Z7 base m r [])):=by
 obtain⟨i5,hi,hz0,hz1,hz2⟩:=info_parts info5';have R1:∀ w',_:=fun (w':World) (hB:Below w.heap.size w w')=>Z1 ad cd d w' hzd hld (hSd.below hB);rw[hn] at R1;have HB:Hid (Below w.heap.size w ((w.alloc (.cells #[.slice none 0 0] 22)).alloc (.cells #[.nilIface] 35))):=((Below.refl _ w).alloc (WzV _) _).alloc (by simp) _;obtain⟨L0,HL0⟩:=nn_ base.length
 rw[<-HL0.out] at R1 hlb ⊢;have hmZ:¬ (100000:Int)<(m:Int):=by omega
 obtain⟨R,HR⟩:=nn_ (madeCells #[.int .u8 0] m);have hmk:∀ w:World,(Instr.makeSlice 22 (.int .i64 0) (.int .i64 m)).run prog w=.ok (.slice (some ⟨w.heap.size,0,none⟩) 0 m) (w.alloc (.cells R 5)):=fun w=>by
  have hr:=run_make (P:=prog) w 22 5 i5 (.int .u8 0) underlying22 hi hz0 .i64 .i64 0 m (by omega) (by omega) (by rw[hz2];omega) (by omega);simp only[Int.toNat_natCast,hz1,Nat.mul_one] at hr;rw[HR.out];exact hr
 refine(callsIn_wide (n:=3)).1 ?_;refine callsIn_of_wp_marks func97 rfl trivial ?_ rfl;simp only[ntmps97,WqW,Wz7,Wv3,Wq3,Wv6,WxY,Wv0,Wv4,Wv1,Wzx,Wz3]
 gi_wp2_with (first | (refine⟨trivial,?_⟩;gi_at_call 109;refine(callsIn_wide.2 (R1 _ HB.out)).mono ?_;clear R1;rintro ev w1 ⟨a1,cap1,q,rfl,rfl,hS1,hn1,hn2⟩) | (refine⟨trivial,?_⟩;gi_at_call 110;refine(zzk _ _ _ _ _ _ _ _).mono ?_;rintro ev w2 ⟨rfl,rfl⟩));have HS1:Hid _:=hS1;have HBE:Hid _:=HB.out
 obtain⟨wE,HWE⟩:=nn_ (((w.alloc (.cells #[.slice none 0 0] 22)).alloc (.cells #[.nilIface] 35)).drewN q);rw[<-HWE.out] at hS1 ⊢;have hEs:wE.heap.size=w.heap.size+2:=by rw[HWE.out];show ((w.alloc _).alloc _).heap.size=_;simp
 have hBw:Below w.heap.size w wE:=by rw[HWE.out];exact below_drewN HB.out q
 have c0:Boxed wE w.heap.size 22 (.slice none 0 0):=by
  rw[HWE.out];exact show Boxed ((w.alloc (.cells #[.slice none 0 0] 22)).alloc (.cells #[.nilIface] 35)) w.heap.size 22 (.slice none 0 0) from (Boxed.new w 22 (.slice none 0 0)).alloc _
 have c1:Boxed wE (w.heap.size+1) 35 .nilIface:=by
  rw[HWE.out];have:=Boxed.new (w.alloc (.cells #[.slice none 0 0] 22)) 35 .nilIface;rw[World.size_alloc] at this;exact this
 have c2:=Boxed.new wE 3 (.int .i64 m);have c4:=Boxed.new ((wE.alloc (.cells #[.int .i64 m] 3)).alloc (.cells R 5)) 22 (.slice (some ⟨w.heap.size+1+1+1,0,none⟩) 0 m);have c5:=Boxed.new (((wE.alloc (.cells #[.int .i64 m] 3)).alloc (.cells R 5)).alloc (.cells #[.slice (some ⟨w.heap.size+1+1+1,0,none⟩) 0 m] 22)) 22 (.slice a0 L0 cap0)
 have c6:=Boxed.new ((((wE.alloc (.cells #[.int .i64 m] 3)).alloc (.cells R 5)).alloc (.cells #[.slice (some ⟨w.heap.size+1+1+1,0,none⟩) 0 m] 22)).alloc (.cells #[.slice a0 L0 cap0] 22)) 22 (.slice a1 r.length cap1);have c3:=World.alloc_heap_new (wE.alloc (.cells #[.int .i64 m] 3)) (.cells R 5);simp only[World.size_alloc,hEs] at c2 c3 c4 c5 c6
 have hI0:ApI w wE w.heap.size m [] (((((wE.alloc (.cells #[.int .i64 m] 3)).alloc (.cells R 5)).alloc (.cells #[.slice (some ⟨w.heap.size+1+1+1,0,none⟩) 0 m] 22)).alloc (.cells #[.slice a0 L0 cap0] 22)).alloc (.cells #[.slice a1 r.length cap1] 22)):=by
  refine⟨((((c0.alloc _).alloc _).alloc _).alloc _).alloc _,((((c1.alloc _).alloc _).alloc _).alloc _).alloc _,(((c2.alloc _).alloc _).alloc _).alloc _,(c4.alloc _).alloc _,⟨by simp[flat],.inr ⟨_,m,R,rfl,by omega,?_,Nat.zero_le _,by unfold maxLen;omega,by rw[HR.out];simp[madeCells],by simp[flat]⟩⟩,Nat.zero_le _,(fun x h=>by cases h),(by simp[hEs]),
   ((((hBw.alloc (by omega) _).alloc (by simp;omega) _).alloc (by simp;omega) _).alloc (by simp;omega) _).alloc (by simp;omega) _,
   (((((Below.refl _ wE).alloc (by omega) _).alloc (by simp) _).alloc (by simp;omega) _).alloc (by simp;omega) _).alloc (by simp;omega) _⟩
  rw[Below.heap_alloc _ _ _ (by simp;omega),Below.heap_alloc _ _ _ (by simp;omega),Below.heap_alloc _ _ _ (by simp;omega)];exact c3
 obtain⟨WL,HWL⟩:=nm_ (((((wE.alloc (.cells #[.int .i64 m] 3)).alloc (.cells R 5)).alloc (.cells #[.slice (some ⟨w.heap.size+1+1+1,0,none⟩) 0 m] 22)).alloc (.cells #[.slice a0 L0 cap0] 22)).alloc (.cells #[.slice a1 r.length cap1] 22));have hLs:WL.heap.size=w.heap.size+7:=by rw[<-HWL.out];simp[hEs]
 have HES:Hid (wE.heap.size=w.heap.size+2):=hEs;have c5:=c5.alloc (.cells #[.slice a1 r.length cap1] 22);rw[HWL.out] at hI0 c5 c6 ⊢;refine wpIn_rangeFunc_ownG (F:=Fence.wide) (n:=3) rfl (by omega) (gf:=128) (lb:=#[.pointer (some ⟨w.heap.size+1+1+1+1+1+1,0,none⟩),.pointer (some ⟨w.heap.size+1+1+1+1+1,0,none⟩)]) rfl trivial (enters_of func128 (by kernel_rfl) rfl)
  (zzv 2 (by omega) wE WL (w.heap.size+1+1+1+1+1+1) (w.heap.size+1+1+1+1+1) a0 a1 cap0 cap1 base r (hSb.below hBw) hS1 hrB (by rw[<-HL0.out];exact hlb) (by omega) hI0.b2 (by omega) (by omega) c6.cell (by rw[<-HL0.out];exact c5.cell))
  kp_t (kp_b (by omega) (by omega)) (Below.refl _ _) (fun _=>rfl) (ApI w wE w.heap.size m) (ApX w wE w.heap.size m) (ApI.own w wE m _ (by omega) (by omega) _) (ApX.own w wE m _ (by omega) _) hI0
  (fun x=>{ tmps:=#[Value.slice a0 L0 cap0,Value.slice ad d.length cd,undef,undef,.pointer (some ⟨w.heap.size,0,none⟩),.pointer (some ⟨w.heap.size+1,0,none⟩),.int .i64 L0,.pointer (some ⟨w.heap.size+1+1,0,none⟩),.slice a1 r.length cap1,.nilIface,.pointer (some ⟨w.heap.size+1+1+1+1,0,none⟩),.slice x.ad x.c.length x.cap,.bool x.ok,.tuple #[.int .i64 L0,.int .i64 m,.slice a1 r.length cap1,.nilIface],.slice ad d.length cd,.tuple #[.int .i64 L0,.int .i64 m,.slice a1 r.length cap1,.nilIface],.int .i64 L0,.int .i64 m,.slice a1 r.length cap1,.nilIface,.nilIface,.bool false,undef,.int .i64 L0,.slice a0 L0 cap0,.int .i64 L0,.bool false,.bool false,.int .i64 m,.bool (decide ((100000:Int)<m)),.bool (decide ((100000:Int)<m)),undef,.int .i64 m,.slice (some ⟨w.heap.size+1+1+1,0,none⟩) 0 m,.slice a0 L0 cap0,.slice a1 r.length cap1,.func (.func 128) #[] #[.pointer (some ⟨w.heap.size+1+1+1+1+1+1,0,none⟩),.pointer (some ⟨w.heap.size+1+1+1+1+1,0,none⟩)],.slice x.ad x.c.length x.cap,.bool x.ok,undef,undef,undef,undef,undef,undef,undef,undef,undef,undef,undef,undef,undef,undef,undef,undef,undef,undef,undef,undef,undef],defers:=[] }) ?assign ?body ?done ?stop
 case assign =>
  intro l x W K hK;dsimp only [Itm.enc];gi_wp2;exact hK
 case body =>
  rintro l pre x W hI hlt;have HI:Hid _:=hI;obtain⟨hr0,hr1,hmk,hout,hrow,hle,hok,hlt',hb1,hb2⟩:=hI;have k0:=hr0.cell;have f0:=hr0.frozen;have k1:=hr1.cell;have f1:=hr1.frozen;have km:=hmk.cell;have ko:=hout.cell;have fo:=hout.frozen;obtain⟨ad,cap,c,ok,sl,ne⟩:=x;dsimp only;cases ok with
  | false =>
   gi_wp2;exact⟨((KeepsOthers.setCell _ _ _).trans (KeepsOthers.setCell _ _ _)).from _,rfl,⟨pre,_,rfl,hle,hok,.inl rfl⟩,(hr0.set _).other (by omega) _,(hr1.other (by omega) _).set _,(hb1.setCell (WzV _) _).setCell (by show w.heap.size<=w.heap.size+1;omega) _⟩
  | true =>
   obtain⟨b,off,rfl,hb,hat⟩:=sl.at_ (ne rfl);by_cases hlong:m<(flat pre).length+c.length
   ·have hlZ:(m:Int)-(flat pre).length<c.length:=(by omega);have hl0:(0:Int)<=(m:Int)-(flat pre).length:=(by omega);gi_wp2;exact⟨((KeepsOthers.setCell _ _ _).trans (KeepsOthers.setCell _ _ _)).from _,rfl,⟨pre,_,rfl,hle,hok,.inr hlong⟩,(hr0.set _).other (by omega) _,(hr1.other (by omega) _).set _,(hb1.setCell (WzV _) _).setCell (by show w.heap.size<=w.heap.size+1;omega) _⟩
   have hlZ:¬ (m:Int)-(flat pre).length<c.length:=(by omega);have hl0:(0:Int)<=(m:Int)-(flat pre).length:=(by omega);have hcs:∀ j u,(c.map (Value.int .u8))[j]? = some u->W.cell? ((⟨b,off,none⟩:Addr).add j)=some u:=fun j u hu=>by
    rw[List.getElem?_map] at hu;cases hj:c[j]? with
    | none=>rw[hj] at hu;cases hu
    | some z =>
     rw[hj] at hu;cases hu
     have hjl:=(List.getElem?_eq_some_iff.1 hj).1;have h1:=(hb2.cell (p:=⟨b,off+j,none⟩) hb).trans (hat j hjl);simp only[List.getD_eq_getElem?_getD,hj,Option.getD_some] at h1;by_cases h0:j=0
     ·subst h0;simpa [Addr.add] using h1
     simpa [Addr.add,h0] using h1
   gi_wp2_with (gi_at_builtin;refine wpListIn_append_fits _ rfl _ _ 22 rfl w.heap.size 5 i5 1 underlying22 hi hz1 (w.heap.size+1+1+1) (flat pre).length m _ rfl hrow ⟨b,off,none⟩ c.length cap (c.map (Value.int .u8)) rfl (by simp) hcs (ints_oneCell _ _) (by omega) ?_;intro w1 hown1 hgrow1;obtain⟨hbx1,hkf1,hkp1,hI1⟩:=ApI.more (x:=⟨some ⟨b,off,none⟩,cap,c,true,sl,ne⟩) rfl hEs HI.out rfl (by show (flat pre).length+c.length<=m;omega) hown1 hgrow1;have ko1:=hbx1.cell;have fo1:=hbx1.frozen)
   exact⟨hkf1 _,hkp1,hI1⟩
 case stop =>
  rintro D c pre W hD hS hX hK;have HE:Hid _:=hX.ended hS;obtain⟨rfl,_,hr0,hr1,hb1⟩:=hX;have HK:Hid _:=hK;gi_wp2;refine AY _ _ D w.heap.size _ _ rfl rfl hr0 hr1 HK.out _ ?_;rw[HE.out];exact⟨hb1.trans (belowK_b (w:=w) (WzV _) _ D _ _ (by omega) HK.out rfl rfl),rfl⟩
 rintro D xs W hD hS hI hK;have hE:=hI.ended hS;have k0:=hI.r0.cell;have f0:=hI.r0.frozen;have k1:=hI.r1.cell;have f1:=hI.r1.frozen;have km:=hI.mks.cell;have ko:=hI.out.cell;have fo:=hI.out.frozen;have hle:=hI.le;have hr0:=hI.r0;have hr1:=hI.r1;have hrow:=hI.row;have hb1:=hI.b1;by_cases hfull:(flat xs).length=m
 ·rw[if_pos hfull] at hE;have hlZ:¬ ((flat xs).length:Int)<m:=by omega
  have hrow':W.ownsRow w.heap.size 5 1 (.slice (some ⟨w.heap.size+1+1+1,0,none⟩) m m) (flat xs).length ((flat xs).map (Value.int .u8)):=by
   have h:=hrow;simp only[hfull] at h ⊢;exact h
  have HE:Hid _:=hE;have HK:Hid _:=hK;clear hI hE;gi_wp2;have b0:=((hr0.set (.slice (some ⟨w.heap.size+1+1+1,0,none⟩) m m)).other (B':=w.heap.size+1) (by omega) .nilIface);have b1:=((hr1.other (B':=w.heap.size) (by omega) (.slice (some ⟨w.heap.size+1+1+1,0,none⟩) m m)).set .nilIface)
  have hK2:=((KeepsOthers.setCell W ⟨w.heap.size,0,none⟩ (.slice (some ⟨w.heap.size+1+1+1,0,none⟩) m m)).trans (KeepsOthers.setCell _ ⟨w.heap.size+1,0,none⟩ .nilIface)).same D _ HK.out rfl;refine AY _ _ D w.heap.size _ _ rfl rfl b0 b1 hK2 _ ?_;rw[HE.out];refine⟨?_,_,rfl,?_⟩
  ·exact((hb1.setCell (WzV _) _).setCell (by show w.heap.size<=w.heap.size+1;omega) _).trans (belowK_b (w:=w) (WzV _) _ D _ _ (by omega) hK2 rfl rfl)
  exact ownsRow_putObj ((hrow'.kept (grownBy_setCell' _ _ _) (.inr (by simp[Value.ownBlock];omega))).kept (grownBy_setCell' _ _ _) (.inr (by simp[Value.ownBlock];omega))) _ hK2 rfl
 rw[if_neg hfull] at hE;have hlZ:((flat xs).length:Int)<m:=by omega
 have HE:Hid _:=hE;have HK:Hid _:=hK;clear hI hE;gi_wp2;have b0:=((hr0.set (.slice none 0 0)).other (B':=w.heap.size+1) (by omega) (.iface 42 (.int .i64 30)));have b1:=((hr1.other (B':=w.heap.size) (by omega) (.slice none 0 0)).set (.iface 42 (.int .i64 30)))
 have hK2:=((KeepsOthers.setCell W ⟨w.heap.size,0,none⟩ (.slice none 0 0)).trans (KeepsOthers.setCell _ ⟨w.heap.size+1,0,none⟩ (.iface 42 (.int .i64 30)))).same D _ HK.out rfl;refine AY _ _ D w.heap.size _ _ rfl rfl b0 b1 hK2 _ ?_;rw[HE.out]
 exact⟨((hb1.setCell (WzV _) _).setCell (by show w.heap.size<=w.heap.size+1;omega) _).trans (belowK_b (w:=w) (WzV _) _ D _ _ (by omega) hK2 rfl rfl),rfl⟩
theorem apply_any (a0 ad:Option Addr) (cap0 cd:Nat) (base d:List Int) (w:World) (hzd:IsB d) (hlb:base.length<=400000) (hld:d.length<=400000) (hSb:Sl w a0 cap0 base) (hSd:Sl w ad cd d) :
  Calls prog 97 #[.slice a0 base.length cap0,.slice ad d.length cd] w (PostA w (app base d)):=by
 cases e:szs d with
 | none =>
  have:=AW a0 ad cap0 cd base d w hzd hlb hld hSd e;simpa only [app,e] using this
 | some x =>
  obtain⟨n,m,r⟩:=x;have hap:app base d=if n=base.length/\m<=100000 then Z7 base m r [] else none:=by simp only[app,e,Z7]
  rw[hap];by_cases hc:n=base.length/\m<=100000;rotate_left
  ·rw[if_neg hc];exact zzw a0 ad cap0 cd base d w hzd hlb hld hSd n m r e (by omega)
  rw[if_pos hc];obtain⟨rfl,hm⟩:=hc;have h1:IsB r/\r.length<=d.length:=by
   unfold szs at e;split at e
   ·cases e
   rename_i e1;split at e
   ·cases e
   rename_i e2;simp only[Option.some.injEq,Prod.mk.injEq] at e;obtain⟨_,_,rfl⟩:=e;have g1:=BV e1 hzd;have g2:=BV e2 g1.1;exact⟨g2.1,by omega⟩
  exact E4 a0 ad cap0 cd base d w hzd hlb hld hSb hSd m r e hm h1.1 h1.2
end Go.Proofs.YtiaaekdpfpaigaaGreatDoor.Dl
namespace Go.Proofs.YtiaaekdpfpaigaaGreatDoor.Dl.Plain
open Go.Proofs.Tryz
abbrev Pl:=Nat->Option (Nat × Nat)
def wt (K:Pl) (i:Nat):Nat:=match K i with
 | none=>2
 | some (s,_)=>if i=s then 16 else 0
def fK (K:Pl):Nat->Nat
 | 0=>0
 | i+1=>fK K i+wt K i
structure Kok (base target:List Int) (K:Pl):Prop where
 in_:∀ i s e,K i=some (s,e)->s<=i/\i<e/\e<=target.length/\s+32<=e
 all:∀ i s e,K i=some (s,e)->∀ j,s<=j->j<e->K j=some (s,e)
 inf:∀ i s e,K i=some (s,e)->∃ p q,base=p++(target.drop s).take (e-s)++q
theorem I7 (K:Pl) {x:Nat} : ∀ n,fK K x<=fK K (x+n)
 | 0=>WzV _
 | n+1=>Wqx (I7 K n) (by rw[<-WzQ,fK];omega)
theorem Tk (K:Pl) {x y:Nat} (h:x<=y):fK K x<=fK K y:=by
 obtain⟨n,rfl⟩:∃ n,y=x+n:=⟨y-x,by omega⟩;exact I7 K n
theorem I8 {K:Pl} {i:Nat} (h:K i=none):fK K (i+1)=fK K i+2:=by rw[fK,wt,h]
theorem G5 {K:Pl} {s e:Nat} (h:K s=some (s,e)):fK K (s+1)=fK K s+16:=by rw[fK,wt,h];simp
theorem Kok.rest {base target:List Int} {K:Pl} (h:Kok base target K) {at_ s e fr len:Nat} (hk:K at_=some (s,e)) (hf:Fd base (target.drop at_) fr len):e-at_<=len:=by
 obtain⟨h1,h2,h3,h4⟩:=h.in_ _ _ _ hk;obtain⟨p,q,hpq⟩:=h.inf _ _ _ hk;refine hf.2.2.2 (e-at_) (by rw[Wz8];omega) ?_;refine⟨p++(target.drop s).take (at_-s),q,?_⟩;rw[hpq];have:(target.drop s).take (e-s)=(target.drop s).take (at_-s)++(target.drop at_).take (e-at_):=by
  rw[show e-s=(at_-s)+(e-at_) by omega,List.take_add,List.drop_drop,show s+(at_-s)=at_ by omega]
 rw[this];simp only[Wz1]
theorem Kok.loose {base target:List Int} {K:Pl} (h:Kok base target K) {x:Nat} (hx:K x=none):∀ n,fK K x+16<=fK K (x+n) ∨ (fK K x+2*n<=fK K (x+n)/\(0<n->K (x+n-1)=none))
 | 0=>.inr ⟨by simp,by omega⟩
 | n+1=>by
  have hm:fK K (x+n)<=fK K (x+(n+1)):=Tk K (by omega);rcases Kok.loose h hx n with g | ⟨g1,g2⟩
  ·exact .inl (by omega)
  cases hk:K (x+n) with
  | none =>
   refine .inr ⟨?_,fun _=>hk⟩;rw[<-WzQ,I8 hk];omega
  | some se =>
   obtain⟨s,e⟩:=se;obtain⟨h1,h2,h3,h4⟩:=h.in_ _ _ _ hk;by_cases hs:s=x+n
   ·subst hs;refine .inl ?_;rw[<-WzQ,G5 hk];omega
   by_cases hn:0<n
   ·have:=h.all _ _ _ hk (x+n-1) (by omega) (by omega);rw[g2 hn] at this;cases this
   obtain rfl:n=0:=(by omega);rw[WzX,hx] at hk;cases hk
def Zy (r:Nat):Nat:=r+(r+126) / 127
theorem Cu.count {base target:List Int} {K:Pl} (h:Kok base target K) (hb:base.length<65536) {pre:List (List Int × List Int)} {bg at_:Nat} (hc:Cu base target pre bg at_) :
  (xz pre).length+Zy (at_-bg)<=fK K at_/\∀ s e,K at_=some (s,e)->s<at_->(bg=at_->(xz pre).length+Zy (at_-bg)+9<=fK K at_)/\(bg<at_->(at_-bg)+(e-at_)<=4/\(xz pre).length+Zy (at_-bg)+(e-at_)+4<=fK K at_):=by
 induction hc using Cu.ind with
 | start=>exact⟨by simp[xz,Zy],fun s e _ h=>by omega⟩
 | @own pre bg at_ fr len g1 g2 g3 g4 ih =>
  obtain⟨ih1,ih2⟩:=ih;have hle:=g1.le;have hfr:=g3.1;have h5:=V1 (at_:=fr) (len:=len) (by omega) (by omega);have hlen:len<=4:=by
   rcases WzW len 256 with h | h
   ·have:=h5.2 h;omega
   have:=h5.1;omega
  have hr:at_+1-bg=(at_-bg)+1:=by omega
  rw[hr];have hC:Zy (at_-bg+1)<=Zy (at_-bg)+2:=by unfold Zy;omega
  cases hk:K at_ with
  | none =>
   rw[I8 hk];refine⟨by omega,fun s e hk1 hs=>?_⟩;obtain⟨a1,a2,_⟩:=h.in_ _ _ _ hk1;have:=h.all _ _ _ hk1 at_ (by omega) (by omega);rw[hk] at this;cases this
  | some se =>
   obtain⟨s,e⟩:=se;obtain⟨h1,h2,h3,h4⟩:=h.in_ _ _ _ hk;have hj:=h.rest hk g3;have hs:s<at_:=(by omega);obtain⟨i1,i2⟩:=ih2 s e hk hs;have hm:fK K at_<=fK K (at_+1):=Tk K (by omega);have hC1:bg<at_->Zy (at_-bg+1)=Zy (at_-bg)+1:=fun hb=>by
    have:=(i2 hb).1;unfold Zy;omega
   rcases WzW bg at_ with hb | hb
   ·have:=hC1 hb;obtain⟨j1,j2⟩:=i2 hb;refine⟨by omega,fun s' e' hk1 hs'=>?_⟩;obtain⟨a1,a2,_⟩:=h.in_ _ _ _ hk1;have hh:=h.all _ _ _ hk1 at_ (by omega) (by omega);rw[hk] at hh;cases hh
    exact⟨by omega,fun _=>⟨by omega,by omega⟩⟩
   have:=i1 (by omega);refine⟨by omega,fun s' e' hk1 hs'=>?_⟩;obtain⟨a1,a2,_⟩:=h.in_ _ _ _ hk1;have hh:=h.all _ _ _ hk1 at_ (by omega) (by omega);rw[hk] at hh;cases hh
   exact⟨by omega,fun _=>⟨by omega,by omega⟩⟩
 | @copy pre bg at_ fr len g1 g2 g3 g4 ih =>
  obtain⟨ih1,ih2⟩:=ih;have hle:=g1.le;have hfr:=g3.1;have h5:=(V1 (at_:=fr) (len:=len) (by omega) (by omega)).1;have hS:(xz (pre++[((target.take at_).drop bg,cpy fr len)])).length=(xz pre).length+Zy (at_-bg)+(cpy fr len).length:=by
   rw[uZ,Wz6,Wz6,V2 _ _ rfl];have:((target.take at_).drop bg).length=at_-bg:=(by rw[Wz8,List.length_take];omega);simp only[this];unfold Zy;omega
  rw[hS,Nat.sub_self,show Zy 0=0 by rfl,WzX];constructor
  ·cases hk:K at_ with
   | none=>rcases h.loose hk len with g | ⟨g,_⟩ <;> omega
   | some se =>
    obtain⟨s,e⟩:=se;obtain⟨h1,h2,h3,h4⟩:=h.in_ _ _ _ hk;by_cases hs:s=at_
    ·subst hs;have:=G5 hk;have:fK K (s+1)<=fK K (s+len):=Tk K (by omega);omega
    obtain⟨i1,i2⟩:=ih2 s e hk (by omega);have:fK K at_<=fK K (at_+len):=Tk K (by omega);rcases WzW bg at_ with hb | hb
    ·have:=(i2 hb).2;omega
    have:=i1 (by omega);omega
  intro s e hk hs;refine⟨fun _=>?_,fun h=>by omega⟩;obtain⟨h1,h2,h3,h4⟩:=h.in_ _ _ _ hk;by_cases hsa:s<=at_
  ·have:=h.rest (h.all _ _ _ hk at_ hsa (by omega)) g3;omega
  have e1:=G5 (h.all _ _ _ hk s (WzV _) (by omega));have e2:fK K at_<=fK K s:=Tk K (by omega);have e3:fK K (s+1)<=fK K (at_+len):=Tk K (by omega);omega
def Kadd (K:Pl) (T n:Nat):Pl:=fun i=>if i<T then K i else if i<T+n then some (T,T+n) else none
theorem Kok.add {base target:List Int} {K:Pl} (h:Kok base target K) (pc more:List Int) (h32:32<=pc.length) (hpc:∃ p q,base=p++pc++q):Kok base (target++pc++more) (Kadd K target.length pc.length):=by
 have hlen:(target++pc++more).length=target.length+pc.length+more.length:=by simp only[Wz6]
 refine⟨fun i s e hk=>?_,fun i s e hk j hj1 hj2=>?_,fun i s e hk=>?_⟩
 ·unfold Kadd at hk;rw[hlen];split at hk
  ·obtain⟨a,b,c,d⟩:=h.in_ _ _ _ hk;omega
  split at hk
  ·cases hk;omega
  cases hk
 ·unfold Kadd at hk ⊢;split at hk
  ·obtain⟨a,b,c,d⟩:=h.in_ _ _ _ hk;rw[if_pos (by omega)];exact h.all _ _ _ hk j hj1 hj2
  split at hk
  ·cases hk
   rw[if_neg (by omega),if_pos hj2]
  cases hk
 unfold Kadd at hk;split at hk
 ·obtain⟨a,b,c,d⟩:=h.in_ _ _ _ hk;obtain⟨p,q,hpq⟩:=h.inf _ _ _ hk;refine⟨p,q,?_⟩;have hlt:s<=target.length:=by omega
  rw[Wz1 target,List.drop_append_of_le_length hlt,List.take_append_of_le_length (by rw[Wz8];omega)];exact hpq
 split at hk
 ·cases hk
  obtain⟨p,q,hpq⟩:=hpc;refine⟨p,q,?_⟩;rw[Wz1 target,List.drop_left,show target.length+pc.length-target.length=pc.length by omega,List.take_left];exact hpq
 cases hk
end Go.Proofs.YtiaaekdpfpaigaaGreatDoor.Dl.Plain
namespace Go.Proofs.YtiaaekdpfpaigaaGreatDoor.Dl
open Go.Proofs.Tryz
open Go.RowKit Plain
theorem IsB.append {a b:List Int} (h:IsB a) (k:IsB b):IsB (a++b):=fun x hx=>by
 rcases WqX.1 hx with g | g
 ·exact h x g
 exact k x g
theorem IsB.cons {x:Int} {b:List Int} (h:0<=x/\x<=255) (k:IsB b):IsB (x :: b):=fun y hy=>by
 rcases List.mem_cons.1 hy with rfl | g
 ·exact h
 exact k y g
theorem IsB.nil:IsB []:=fun x hx=>by cases hx
theorem IsB.drop {b:List Int} (h:IsB b) (n:Nat):IsB (b.drop n):=fun x hx=>h x (List.mem_of_mem_drop hx)
theorem IsB.take {b:List Int} (h:IsB b) (n:Nat):IsB (b.take n):=fun x hx=>h x (List.mem_of_mem_take hx)
theorem I9:∀ (f n:Nat),n<2 ^ (7*f+7)->IsB (wsz f n)
 | 0,n,h=>IsB.cons (by omega) IsB.nil
 | f+1,n,h=>by
  rw[wsz];split
  ·exact IsB.cons (by omega) IsB.nil
  have:n / 128<2 ^ (7*f+7):=by
   rw[Nat.div_lt_iff_lt_mul (by omega)];rw[show 7*(f+1)+7=(7*f+7)+7 by omega,Nat.pow_add] at h;exact h
  exact IsB.cons (by omega) (I9 f (n / 128) this)
theorem Iz {n:Nat} (h:n<=100000):IsB (szw n):=I9 5 n (by omega)
theorem DV:∀ (f:Nat) (l:List Int),IsB l->IsB (K7 f l)
 | 0,l,h=>IsB.nil
 | f+1,l,h=>by
  rw[K7];split
  ·exact IsB.nil
  exact IsB.append (IsB.cons (by omega) (h.take _)) (DV f _ (h.drop _))
theorem Iq {l:List Int} (h:IsB l):IsB (own l):=DV _ _ h
theorem Ix (place:Nat):∀ i,IsB (byl place i)
 | 0=>IsB.nil
 | i+1=>by
  rw[byl];refine IsB.append (Ix place i) ?_;split
  ·exact IsB.nil
  have:byt place i<256:=Nat.mod_lt _ (by omega);exact IsB.cons (by omega) IsB.nil
theorem qz8 (fr len:Nat):IsB (cpy fr len):=by
 unfold cpy xY;refine IsB.cons ?_ (Ix _ _);have:=TZ (fr+len*4294967296) 7;generalize msk _ 7=z at this;omega
theorem Plain.Cu.isB {base target:List Int} {pre:List (List Int × List Int)} {bg at_:Nat} (h:Cu base target pre bg at_) (hz:IsB target):IsB (xz pre):=by
 induction h using Cu.ind with
 | start=>exact IsB.nil
 | own fr len g1 g2 g3 g4 ih=>exact ih
 | copy fr len g1 g2 g3 g4 ih =>
  rw[uZ];exact ih.append ((Iq ((hz.take _).drop _)).append (qz8 _ _))
theorem mk_isB {base target:List Int} {pre:List (List Int × List Int)} {bg:Nat} (h:Cu base target pre bg target.length) (hz:IsB target) (h1:base.length<=100000) (h2:target.length<=100000):IsB (mk base target pre bg) :=
 (Iz h1).append ((Iz h2).append ((h.isB hz).append (Iq (hz.drop _))))
end Go.Proofs.YtiaaekdpfpaigaaGreatDoor.Dl
namespace Go.Proofs.YtiaaekdpfpaigaaGreatDoor.Pk
open Go.Proofs.Tryz
open Go.RowKit Go.Maps Go.Proofs.YtiaaekdpfpaigaaGreatDoor.Id Go.Proofs.YtiaaekdpfpaigaaGreatDoor.Px
theorem GY {w w0:World} {ops:Array Oper} {rest:List Oper} {o:Oper} {a:Act} {Q:Exit->Act->World->Prop} (hgd:o.guard=none) (s x:Operand) (ho:o.op=.call { callee:=.builtin .append,args:=#[s,x],argTypes:=#[22,22] }) (B:Nat) (v:Value) (out:List Int) (hs:a.eval s=v) (h:Bd w0 w B v out)
    (ax:Option Addr) (cx:Nat) (l:List Int) (hx:a.eval x=.slice ax l.length cx) (hS:Sl w ax cx l) (hl:out.length+l.length<=1000000)
    (hK:∀ v' w',Bd w0 w' B v' (out++l)->w.grownBy w' v.ownBlock->Dl.Mv w w' v v'->wpList prog ops Q rest (a.put o.dst v') w'):wpList prog ops Q (o :: rest) a w:=by
  obtain⟨i5,hi,hz0,hz1,hz2⟩:=info_parts info5
  cases ax with
  | none =>
    have hc:cx=0:=hS.nil rfl
    have hcl:=hS.capl
    obtain rfl:l=[]:=List.length_eq_zero_iff.1 (by omega)
    subst hc
    refine wpList_plain hgd fun K hK'=>?_
    have hr:=run_append_owned_none (P:=prog) w B 22 o.type 5 i5 1 underlying22 hi v _ _ h.own
    unfold Oper.wp execOp
    simp only[Wv3] at hx
    simp only[ho,resolve,invoke,builtin,Sem.run_bind,Sem.run_pure,Result.andThen_ok,Wxy,Wxj,Wxk,hs,hx,hr]
    exact hK' _ _ (hK v w (by simpa using h) ⟨rfl,rfl,rfl,WzV _,fun _ _ _=>rfl⟩ (Dl.Mv.refl _ _))
  | some ad =>
    refine wpList_append_own_at w hgd s x 22 ho B 5 i5 (.int .u8 0) 1 1 underlying22 hi hz0 hz1 hz2 rfl (by decide) v _ _ hs h.own ad l.length cx (l.map (Value.int .u8)) hx (by simp) ?_ (ints_oneCell .u8 l) (by unfold maxLen;omega) (by omega) h.le ?_
    · intro j z hj
      rw[List.getElem?_map] at hj
      cases hc:l[j]? with
      | none=>rw[hc] at hj;cases hj
      | some y =>
        rw[hc] at hj;cases hj
        have hlt:=(List.getElem?_eq_some_iff.1 hc).1
        obtain⟨b,off,e1,e2,e3⟩:=hS.at_ (by omega)
        cases e1
        have:=e3 j hlt
        rw[addr_add]
        simpa [List.getD_eq_getElem?_getD,hc] using this
    · intro v' w' h1 h2 h3 h4
      refine hK v' w' ⟨h.below.grown h2 h.le (fun k hk=>(zJ h.own k hk).1),?_,Wqx h.le h2.size⟩ h2 (Dl.Mv.app ⟨rfl,rfl,rfl,WzV _,fun _ _ _=>rfl⟩ h2 h4)
      rw[Wz6,List.map_append]
      exact h1
theorem zvy {P:Program} {o:Oper} {a:Act} {w w':World} (t:Nat) (x y z:Operand) (ho:o.op=.build t #[(0,x),(1,y),(2,z)]) (u1 u2 u3 v:Value) (h1:a.eval x=u1) (h2:a.eval y=u2) (h3:a.eval z=u3) (hr:(Instr.build t #[(0,u1),(1,u2),(2,u3)]).run P w=.ok v w'):(execOp a.eval o).run P w=.ok (.value v) w':=by
 unfold execOp;simp[ho,h1,h2,h3,hr,Result.andThen]
theorem zvu {P:Program} {o:Oper} {a:Act} {w w':World} (t len:Nat) (x y:Operand) (ho:o.op=.buildSlice t len #[(0,x),(1,y)]) (u1 u2 v:Value) (h1:a.eval x=u1) (h2:a.eval y=u2) (hr:(Instr.buildSlice t len #[(0,u1),(1,u2)]).run P w=.ok v w'):(execOp a.eval o).run P w=.ok (.value v) w':=by
 unfold execOp;simp[ho,h1,h2,hr,Result.andThen]
theorem run97 (a b:Option Addr) (n m c d:Nat) (w:World):(Instr.buildSlice 97 2 #[(0,.slice a n c),(1,.slice b m d)]).run prog w=.ok (.slice (some ⟨w.heap.size,0,none⟩) 2 2) (w.alloc (.cells #[.slice a n c,.slice b m d] 56)):=by kernel_rfl
theorem run95 (K:Nat) (x:Oj) (bg:Int) (dp:Nat) (w:World):(Instr.build 95 #[(0,.agg (yQ K x).toArray),(1,.int .i64 bg),(2,.int .i64 dp)]).run prog w=.ok (.agg (kz K ⟨x,bg,dp⟩).toArray) w:=by kernel_rfl
theorem qqK (K:Nat) (y:Bs) (w:World):(Instr.buildSlice 56 1 #[(0,.agg (kz K y).toArray)]).run prog w=.ok (.slice (some ⟨w.heap.size,0,none⟩) 1 1) (w.alloc (.cells (kz K y).toArray 95)):=by kernel_rfl
theorem zvZ:(prog.info? 95).map (fun i=>(i.zero,i.size,i.bytes))=some (some (.agg #[.int .i64 0,.slice none 0 0,.int .i64 0,.int .i64 0]),4,48):=by kernel_rfl
theorem kj (K:Nat) (bs:List Bs):∀ y ∈ bs,(kz K y).length=4:=fun _ _=>rfl
def One (base target:List Int):Prop:=target.length=base.length/\∃ s,s<target.length/\∀ i,i ≠ s->target[i]? = base[i]?
theorem One.short {base target:List Int} (h:One base target) (hb:base.length<65536) {pre:List (List Int × List Int)} {bg:Nat} (hc:Dl.Plain.Cu base target pre bg target.length):(Dl.Plain.mk base target pre bg).length<=33:=by
 obtain⟨h1,s,h2,h3⟩:=h;exact qy7 h1 hb h2 h3 hc
theorem qz9 {l:List Int} (h:Dl.IsB l):IsB l:=fun x hx=>by have:=h x hx;omega
section
variable {α : Type} {enc : α → List Value} {k : Nat} {d : α}
theorem Bx.app1 {e:TypeId} {w0 w:World} {B:Nat} {v:Value} {l:List α} (h:Bx enc k e w0 w B v l) (b:Nat) (y:α) (hb:w.rangeAt b 0 (enc y)) (hy:(enc y).length=k) (hk:0<k) (hone:∀ v ∈ enc y,v.oneCell'=true) (hl:l.length<=3000) (t:TypeId) (hu:prog.underlying t=some (.slice e)) {z:Value} {by_:Nat} (hin:(prog.info? e).map (fun i=>(i.zero,i.size,i.bytes))=some (some z,k,by_)) (hz:z.cells.size=k) (hby:by_<=1000) (ty:TypeId) :
  ∃ v' w',(Builtin.append_ #[t,t] ty #[v,.slice (some ⟨b,0,none⟩) 1 1]).run prog w=.ok v' w'/\Bx enc k e w0 w' B v' (l++[y])/\w.grownBy w' v.ownBlock/\Dl.Mv w w' v v':=by
 obtain⟨i,hi,hz0,hz1,hz2⟩:=info_parts hin;have hbb:(l.length+1)*by_<=3001*1000:=Nat.mul_le_mul (by omega) hby
 obtain⟨v',w',hr,h1,h2,_,h4⟩:=run_append_own_at (P:=prog) w B t ty e i z k by_ hu hi hz0 hz1 hz2 hz hk v _ _ h.own ⟨b,0,none⟩ 1 1 (enc y) (by rw[hy,Nat.one_mul]) (fun j u hj=>by rw[Id.addr_add];exact hb j u hj) hone (by unfold maxLen;omega) (by omega) h.le
 refine⟨v',w',hr,⟨h.below.grown h2 h.le (fun k hk=>(zJ h.own k hk).1),?_,Wqx h.le h2.size⟩,h2,Dl.Mv.app ⟨rfl,rfl,rfl,WzV _,fun _ _ _=>rfl⟩ h2 h4⟩;rw[Wz6,List.flatMap_append];simpa using h1
end
theorem u_7 (t:TypeId) (hs:∀ w:World,(sizeOf t).run prog w=.ok 1 w) {o:Oper} {a:Act} {w:World} (x y:Operand) (ho:o.op=.store t x y) (p:Addr) (v old:Value) (hx:a.eval x=.pointer (some p)) (hy:a.eval y=v) (hv:v.oneCell'=true) (hc:v.cells=#[v]) (ht:w.cell? p=some old) (hf:w.frozen? p=false) :
  (execOp a.eval o).run prog w=.ok .skip (w.setCell p v):=by
 have hs:=hs w;unfold execOp;simp[ho,hx,hy,Instr.storeAt,Instr.sureAddr,storeVar,hs,hc,storeCells,Addr.add,Result.andThen];rw[run_store prog w p _ _ hv];simp[ht,hf]
theorem yy {P:Program} {o:Oper} {a:Act} {w w':World} {v1 v2 v:Value} (s x:Operand) (t:TypeId) (ho:o.op=.call { callee:=.builtin .append,args:=#[s,x],argTypes:=#[t,t] }) (hs:a.eval s=v1) (hx:a.eval x=v2) (hr:(Builtin.append_ #[t,t] o.type #[v1,v2]).run P w=.ok v w'):(execOp a.eval o).run P w=.ok (.value v) w':=by
 unfold execOp;simp only[ho,resolve,invoke,builtin,Sem.run_bind,Sem.run_pure,Result.andThen_ok,Wxy,Wxj,Wxk,hs,hx,hr]
theorem zvQ (w:World):(sizeOf 56).run prog w=.ok 1 w:=by kernel_rfl
theorem Ij (w:World):(sizeOf 62).run prog w=.ok 1 w:=by kernel_rfl
theorem kw {P:Program} {md:Region.Mode} {Q:Exit->Act->World->Prop} {S:World->Prop} {l:List Oper} (i:Nat) {oi:Oper} {v:Value} {fuel:Nat} {listed:Array Bool} {a:Act} {w:World} (hS:S w)
  (h:wpAnyH P md l.toArray Q S fuel (listed.setIfInBounds i true) (a.put oi.dst v) w) (hi:l[i]? = some oi:=by rfl) (hg:Region.wanted oi (yielded l.toArray a.tmps)=true:=by rfl)
  (hs:Region.noSelect l.toArray=true:=by kernel_rfl) (hf:Region.free md l.toArray listed i=true:=by kernel_rfl) (hr:(Region.ready md l.toArray listed).contains i=true:=by kernel_rfl) (hQ:∀ c a w,Q (.panic c) (a.put oi.dst v) w->Q (.panic c) a w:=by exact fun _ _ _ h=>h) (hy:∀ w',S w'->(execOp a.eval oi).run P w'=.ok (.value v) w':=by intro w' h;cases h;go_simp;first | done | rfl) :
  wpAnyH P md l.toArray Q S (fuel+1) listed a w:=Dl.takeL hi hs hf hr hQ (Or.inl ⟨hg,hy⟩) hS h
end Go.Proofs.YtiaaekdpfpaigaaGreatDoor.Pk
