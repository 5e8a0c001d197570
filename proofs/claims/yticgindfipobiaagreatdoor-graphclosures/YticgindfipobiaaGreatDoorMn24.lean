import Derived.Test.YticgindfipobiaaGreatDoorMn17
import Derived.Test.YticgindfipobiaaGreatDoorMn23
set_option linter.unusedSimpArgs false
set_option linter.unusedVariables false
set_option maxRecDepth 20000
set_option maxHeartbeats 4000000
namespace Go.Proofs.YticgindfipobiaaGreatDoor
open Go.RowKit
def Qw:List UInt8:=[116,114,101,101]
def qJ:List UInt8:=[112,97,114,101,110,116]
def xx:List UInt8:=[97,117,116,104,111,114]
def qy:List UInt8:=[99,111,109,109,105,116,116,101,114]
def hasP (s:List UInt8):Bool:=Lib.hasPrefix s (qJ++[32])
structure PQs (s:List UInt8) (ids:List (List Int)) (r:List UInt8):Prop where
 all:∀ P:List (List Int)->List UInt8->Prop,P [] s->(∀ (ids:List (List Int)) (r:List UInt8) (fr:List Int),P ids r->hasP r=true->PId (fld r qJ) fr->P (ids++[fr]) (rst r))->P ids r
theorem PQs.zero {s:List UInt8} : PQs s [] s:=⟨fun _ h _=>h⟩
theorem PQs.step {s:List UInt8} {ids:List (List Int)} {r:List UInt8} {fr:List Int} (h1:PQs s ids r) (h2:hasP r=true) (h3:PId (fld r qJ) fr):PQs s (ids++[fr]) (rst r) :=
 ⟨fun P a b=>b ids r fr (h1.all P a b) h2 h3⟩
theorem PQs.ind {s:List UInt8} {motive:(ids:List (List Int))->(r:List UInt8)->PQs s ids r->Prop} (zero:motive [] s PQs.zero)
  (step:∀ {ids:List (List Int)} {r:List UInt8} {fr:List Int} (h1:PQs s ids r) (h2:hasP r=true) (h3:PId (fld r qJ) fr),motive ids r h1->motive (ids++[fr]) (rst r) (PQs.step h1 h2 h3))
  {ids:List (List Int)} {r:List UInt8} (h:PQs s ids r):motive ids r h:=by
 have k:∃ h',motive ids r h':=h.all (fun p q=>∃ h',motive p q h') ⟨_,zero⟩ (fun p q fr ⟨h1,m⟩ h2 h3=>⟨_,step h1 h2 h3 m⟩)
 obtain⟨_,m⟩:=k
 exact m
theorem PQs.le {s:List UInt8} {ids:List (List Int)} {r:List UInt8} (h:PQs s ids r):r.length+ids.length<=s.length:=by
 induction h using PQs.ind with
 | zero=>simp
 | @step ids r fr h1 h2 h3 ih =>
  have h4:(rst r).length+1<=r.length:=by
   have h5:0<r.length:=by
    rcases r with _ | ⟨x,r⟩
    ·exact absurd h2 (by decide)
    ·simp
   unfold rst Lib.cut
   split
   ·rename_i i hi
    simp only[List.length_drop,List.length_cons,List.length_nil]
    omega
   ·simp only[List.length_nil];omega
  simp only[List.length_append,List.length_cons,List.length_nil]
  omega
theorem PQs.wf {s:List UInt8} {ids:List (List Int)} {r:List UInt8} (h:PQs s ids r):WfI ids:=by
 induction h using PQs.ind with
 | zero=>intro x hx;cases hx
 | @step ids r fr h1 h2 h3 ih =>
  intro x hx
  rcases List.mem_append.1 hx with hx | hx
  ·exact ih x hx
  ·have:x=fr:=by simpa using hx
   subst this
   exact⟨h3.1,h3.2.1⟩
def TC (s:List UInt8) (C:Cm):Prop:=PId (fld s Qw) C.tree/\∃ r,PQs (rst s) C.ids r/\hasP r=false/\PP (fld r xx) C.au/\PP (fld (rst r) qy) C.co/\C.msg=rst (rst (rst r))
theorem has_any (s:List UInt8) (g:Nat) (w:World) (hg:w.heap[g]? = some (.cells #[.string ⟨s.toArray⟩] 230 (0,0))) :
  Calls Tryz.prog 119 #[.pointer (some ⟨g,0,none⟩),.string ⟨qJ.toArray⟩] w fun e w'=>e=.returned (.bool (hasP s))/\w'=w:=by
 obtain⟨S,HS⟩:=nm_ (⟨s.toArray⟩:ByteArray)
 obtain⟨b,HB⟩:=nm_ (hasP s)
 obtain⟨Wd,HW⟩:=nm_ (⟨qJ.toArray⟩:ByteArray)
 obtain⟨W2,HW2⟩:∃ S:ByteArray,Wd ++ ⟨#[32]⟩=S:=⟨_,rfl⟩
 have HP:Hid (∀ w,Calls Tryz.prog 157 #[.string S,.string W2] w fun e w'=>e=.returned (.bool b)/\w'=w):=fun w=>by
  have h2:W2=⟨(qJ++[32]).toArray⟩:=by rw[<-HW2,<-HW.out,show (⟨#[32]⟩:ByteArray)=⟨[32].toArray⟩ from rfl];exact yw _ _
  rw[h2,<-HS.out,<-HB.out]
  exact Any.strings_HasPrefix Tryz.lays99 ⟨s.toArray⟩ ⟨(qJ++[32]).toArray⟩ w
 have hWs:Wd.size<=100:=by rw[<-HW.out];decide
 have g1:¬ 9223372036854775807<Wd.size+1:=by omega
 have g2:¬ 9223372036854775807<=Wd.size:=by omega
 have l3:(⟨#[32]⟩:ByteArray).size=1:=rfl
 rw[HS.out] at hg
 have hc:w.cell? ⟨g,0,none⟩=some (.string S):=by rw[cell_of_row w g 0 _ _ _ hg];rfl
 rw[HB.out,HW.out]
 clear hg
 go_enter Tryz.func119,Tryz.ntmps119
 go_wp2_with fail
 refine(HP.out w).mono ?_
 rintro ev w' ⟨rfl,rfl⟩
 go_wp2
 go_ret
 exact⟨rfl,rfl⟩
def cm0 (fr:List Int):Cm:=⟨fr,[],⟨[],[],0,0⟩,⟨[],[],0,0⟩,[]⟩
theorem zero60 (w:World):(zeroValue 158).run Tryz.prog w=.ok (.agg (cmV (cm0 z20) none 0).toArray) w:=by kernel_rfl
theorem built60 (fr:List Int) (h:fr.length=20):Tryz.prog.built 158 [(0,.agg (row .u8 fr).toArray)]=some (cmV (cm0 fr) none 0).toArray:=by
 obtain⟨a0,a1,a2,a3,a4,a5,a6,a7,a8,a9,a10,a11,a12,a13,a14,a15,a16,a17,a18,a19,rfl⟩:=uw fr h
 kernel_rfl
theorem fold60 (fr:List Int) (h:fr.length=20):List.foldl (fun (cs:Array Value) (x:Value × Nat)=>cs.setIfInBounds x.snd x.fst) (cmV (cm0 z20) none 0).toArray (row .u8 fr).zipIdx=(cmV (cm0 fr) none 0).toArray:=by
 obtain⟨a0,a1,a2,a3,a4,a5,a6,a7,a8,a9,a10,a11,a12,a13,a14,a15,a16,a17,a18,a19,rfl⟩:=uw fr h
 kernel_rfl
theorem cmV_set (c:Cm) (a:Option Addr) (cap:Nat) (h:c.tree.length=20) (i:Nat) (v:Value):(cmV c a cap).set (20+i) v=row .u8 c.tree++(cmT c a cap).set i v:=by
 have hl:(row .u8 c.tree).length=20:=by rw[zq];exact h
 unfold cmV
 rw[List.set_append_right _ _ (by omega),hl,Nat.add_sub_cancel_left]
structure CS (G G4:Nat) (zr:Array Value) (r:ByteArray) (C:Cm) (a:Option Addr) (cap:Nat) (w W:World):Prop where
 below:Below G w W
 box:W.heap[G+1]? = some (.cells #[.string r] 230 (0,0))
 com:W.heap[G4]? = some (.cells (cmV C a cap).toArray 158 (0,0))
 res:W.heap[G]? = some (.cells zr 158 (0,0))
section
variable {G G4 : Nat} {zr : Array Value} {r r' : ByteArray} {C C' : Cm} {a a' : Option Addr} {cap cap' : Nat} {w W W' : World}
theorem CS.rd (h:CS G G4 zr r C a cap w W) (h4:G+1<G4) (hr:Rd (G+1) r' W W'):CS G G4 zr r' C a cap w W' :=
 ⟨hr.below h.below (by omega) (z6 h.box),hr.box,(hr.block G4 (z6 h.com) (by omega)).trans h.com,(hr.block G (z6 h.res) (by omega)).trans h.res⟩
theorem CS.grow (h:CS G G4 zr r C a cap w W) (hb:Below W.heap.size W W'):CS G G4 zr r C a cap w W' :=
 ⟨h.below.trans (hb.mono (Nat.le_of_lt (z6 h.res))),(hb.block _ (z6 h.box)).trans h.box,(hb.block _ (z6 h.com)).trans h.com,(hb.block _ (z6 h.res)).trans h.res⟩
theorem CS.grown (h:CS G G4 zr r C a cap w W) (h4:G+1<G4) {q:Option Nat} (hg:W.grownBy W' q) (hq:∀ k,q=some k->G4<k):CS G G4 zr r C a cap w W':=by
 have hne:∀ b,b<=G4->some b ≠ q:=fun b hb e=>by have:=hq b e.symm;omega
 exact⟨h.below.grown hg (Nat.le_of_lt (z6 h.res)) (fun k hk=>by have:=hq k hk;omega),(hg.block _ (z6 h.box) (hne _ (by omega))).trans h.box,(hg.block _ (z6 h.com) (hne _ (Nat.le_refl _))).trans h.com,(hg.block _ (z6 h.res) (hne _ (by omega))).trans h.res⟩
theorem CS.set (h:CS G G4 zr r C a cap w W) (h4:G+1<G4) (hl:C.tree.length=20) (i:Nat) (v:Value) (he:row .u8 C.tree++(cmT C a cap).set i v=cmV C' a' cap'):CS G G4 zr r C' a' cap' w (W.setCell ⟨G4,20+i,none⟩ v) :=
 ⟨h.below.setCell (by show G<=G4;omega) _,(heap_setCell_other W ⟨G4,20+i,none⟩ (G+1) v (by show G+1 ≠ G4;omega)).trans h.box,by rw[heap_setCell_same W G4 (20+i) _ 158 v h.com,List.setIfInBounds_toArray,cmV_set C a cap hl,he],(heap_setCell_other W ⟨G4,20+i,none⟩ G v (by show G ≠ G4;omega)).trans h.res⟩
theorem CS.cell (h:CS G G4 zr r C a cap w W) (hl:C.tree.length=20) (i:Nat) (v:Value) (hv:(cmT C a cap)[i]? = some v):W.cell? ⟨G4,20+i,none⟩=some v/\W.frozen? ⟨G4,20+i,none⟩=false :=
 ⟨(cell_of_row W G4 (20+i) _ _ _ h.com).trans (by rw[List.getElem?_toArray,cmV_at C a cap hl];exact hv),frozen_of_row W G4 (20+i) _ _ h.com⟩
theorem CS.au (h:CS G G4 zr r C a cap w W) (h4:G+1<G4) (hl:C.tree.length=20) (p:Per):CS G G4 zr r { C with au:=p } a cap w (W.setCells G4 21 (qK p).toList):=by
 have h1:=h.set (C':={ C with au:={ C.au with name:=p.name } }) (a':=a) (cap':=cap) h4 hl 1 (.string ⟨p.name.toArray⟩) rfl
 have h2:=h1.set (C':={ C with au:={ C.au with name:=p.name,mail:=p.mail } }) (a':=a) (cap':=cap) h4 hl 2 (.string ⟨p.mail.toArray⟩) rfl
 have h3:=h2.set (C':={ C with au:={ C.au with name:=p.name,mail:=p.mail,time:=p.time } }) (a':=a) (cap':=cap) h4 hl 3 (.int .i64 p.time) rfl
 exact h3.set (C':={ C with au:=p }) (a':=a) (cap':=cap) h4 hl 4 (.int .i64 p.zone) rfl
theorem CS.co (h:CS G G4 zr r C a cap w W) (h4:G+1<G4) (hl:C.tree.length=20) (p:Per):CS G G4 zr r { C with co:=p } a cap w (W.setCells G4 25 (qK p).toList):=by
 have h1:=h.set (C':={ C with co:={ C.co with name:=p.name } }) (a':=a) (cap':=cap) h4 hl 5 (.string ⟨p.name.toArray⟩) rfl
 have h2:=h1.set (C':={ C with co:={ C.co with name:=p.name,mail:=p.mail } }) (a':=a) (cap':=cap) h4 hl 6 (.string ⟨p.mail.toArray⟩) rfl
 have h3:=h2.set (C':={ C with co:={ C.co with name:=p.name,mail:=p.mail,time:=p.time } }) (a':=a) (cap':=cap) h4 hl 7 (.int .i64 p.time) rfl
 exact h3.set (C':={ C with co:=p }) (a':=a) (cap':=cap) h4 hl 8 (.int .i64 p.zone) rfl
end
def OI (B:Nat) (a:Option Addr) (cap:Nat) (ids:List (List Int)) (W:World):Prop:=W.ownsRow B 56 20 (.slice a ids.length cap) ids.length (ids.flatMap (row .u8))
theorem OI.keep {B:Nat} {a:Option Addr} {cap:Nat} {ids:List (List Int)} {W W':World} (h:OI B a cap ids W) (hb:Below W.heap.size W W'):OI B a cap ids W':=World.ownsRow.kept h (zw hb none) (by
 cases a with
 | none=>left;rfl
 | some x=>right;simp[Value.ownBlock])
theorem OI.rd {B g:Nat} {r:ByteArray} {a:Option Addr} {cap:Nat} {ids:List (List Int)} {W W':World} (h:OI B a cap ids W) (hr:Rd g r W W') (hg:g<B):OI B a cap ids W':=by
 have hgr:W.grownBy W' (some g):=⟨hr.os,hr.tape,hr.output,hr.size,fun k hk hne=>hr.block k hk (fun e=>hne (by rw[e]))⟩
 refine World.ownsRow.kept h hgr ?_
 obtain⟨_,⟨hv,_⟩ | ⟨g2,cap2,cur,hv,hb,_⟩⟩:=h
 ·rw[hv];left;rfl
 ·rw[hv];right
  simp[Value.ownBlock]
  omega
theorem flat_at (ids:List (List Int)) (h:WfI ids):∀ (i j:Nat) (v:Value),i<ids.length->(row .u8 (ids.getD i []))[j]? = some v->(ids.flatMap (row .u8))[i*20+j]? = some v:=by
 induction ids with
 | nil=>intro i j v hi;simp at hi
 | cons x t ih =>
  intro i j v hi hv
  have hx:(row .u8 x).length=20:=by rw[zq];exact(h x (by simp)).1
  rw[List.flatMap_cons]
  cases i with
  | zero =>
   have hj:j<(row .u8 x).length:=(List.getElem?_eq_some_iff.1 (by simpa using hv)).1
   rw[Nat.zero_mul,Nat.zero_add,List.getElem?_append_left hj]
   simpa using hv
  | succ i =>
   rw[List.getElem?_append_right (by rw[hx,Nat.succ_mul];omega),hx,show (i+1)*20+j-20=i*20+j by omega]
   exact ih (fun y hy=>h y (by simp[hy])) i j v (by simpa using hi) (by simpa using hv)
theorem OI.pa {B:Nat} {a:Option Addr} {cap:Nat} {ids:List (List Int)} {W:World} (h:OI B a cap ids W) (hw:WfI ids):Pa W a cap ids:=by
 obtain⟨hl,⟨hv,h0⟩ | ⟨g,cap2,cur,hv,hb,hh,hkc,hcm,hsz,htk⟩⟩:=h
 ·simp only[Value.slice.injEq] at hv
  obtain⟨rfl,_,rfl⟩:=hv
  exact⟨by omega,fun h=>by omega,fun _=>rfl⟩
 ·simp only[Value.slice.injEq] at hv
  obtain⟨rfl,_,rfl⟩:=hv
  refine⟨hkc,fun _=>⟨g,0,rfl,(Array.getElem?_eq_some_iff.1 hh).1,fun i hi j v hv=>?_⟩,fun e=>by cases e⟩
  have h1:=flat_at ids hw i j v hi hv
  rw[<-htk] at h1
  rw[Nat.zero_add,cell_of_row W g (i*20+j) _ _ _ hh]
  have hlt:i*20+j<ids.length*20:=by
   have h2:=(List.getElem?_eq_some_iff.1 h1).1
   rw[List.length_take] at h2
   omega
  rw[List.getElem?_take_of_lt hlt] at h1
  simpa using h1
theorem Tryz.info56:(Tryz.prog.info? 56).map (fun i=>(i.zero,i.size,i.bytes))=some (some (.agg (row .u8 z20).toArray),20,20):=by kernel_rfl
theorem enter138 (v1 v2:Value) (w:World):(callFunc 118 #[v1,v2]).run Tryz.prog w=.ok (.enter 118 #[v1,v2]) w:=by kernel_rfl
theorem Tryz.results81:Tryz.f81.results=#[.cell 2 158]:=by kernel_rfl
theorem OI.lower {B B':Nat} {a:Option Addr} {cap:Nat} {ids:List (List Int)} {W:World} (h:OI B a cap ids W) (hb:B'<=B):OI B' a cap ids W:=by
 obtain⟨hl,h | ⟨g,cap2,cur,hv,hg,r⟩⟩:=h
 ·exact⟨hl,.inl h⟩
 ·exact⟨hl,.inr ⟨g,cap2,cur,hv,by omega,r⟩⟩
theorem OI.snoc {B:Nat} {ao:Option Addr} {cap n:Nat} {ids:List (List Int)} {fr:List Int} {W:World} (hn:ids.length=n) (h:W.ownsRow B 56 20 (.slice ao (n+1:Nat) cap) (n+1) (ids.flatMap (row .u8)++row .u8 fr)):OI B ao cap (ids++[fr]) W:=by
 unfold OI
 have e:(ids++[fr]).length=n+1:=by simp[hn]
 rw[e,List.flatMap_append]
 simpa using h
theorem OI.setCells {B g:Nat} {a:Option Addr} {cap:Nat} {ids:List (List Int)} {W:World} (h:OI B a cap ids W) (hg:g<B) (o:Nat) (vs:List Value):OI B a cap ids (W.setCells g o vs):=by
 have hb:=z7 (Nat.le_refl g) vs o W W (Below.refl g W)
 have hgr:W.grownBy (W.setCells g o vs) (some g):=⟨hb.os,hb.tape,hb.output,hb.size,fun k hk hne=>q9 g k (fun e=>hne (by rw[e])) vs o _⟩
 refine World.ownsRow.kept h hgr ?_
 obtain⟨_,⟨hv,_⟩ | ⟨g2,cap2,cur,hv,hb,_⟩⟩:=h
 ·rw[hv];left;rfl
 ·rw[hv];right
  simp[Value.ownBlock]
  omega
theorem news_row (w:World) (RF:List Value) (t:TypeId):∀ j u,RF[j]? = some u->(w.alloc (.cells RF.toArray t)).cell? ((⟨w.heap.size,0,none⟩:Addr).add j)=some u:=fun j u hj=>by
 have h:=zx (heap_alloc_new w (.cells RF.toArray t)) j u hj
 rw[qz]
 exact h
theorem fold32 (fr:List Int) (h:fr.length=20):List.foldl (fun (cs:Array Value) (x:Value × Nat)=>cs.setIfInBounds x.snd x.fst) #[.int .u8 0,.int .u8 0,.int .u8 0,.int .u8 0,.int .u8 0,.int .u8 0,.int .u8 0,.int .u8 0,.int .u8 0,.int .u8 0,.int .u8 0,.int .u8 0,.int .u8 0,.int .u8 0,.int .u8 0,.int .u8 0,.int .u8 0,.int .u8 0,.int .u8 0,.int .u8 0] (row .u8 fr).zipIdx=(row .u8 fr).toArray:=by
 obtain⟨a0,a1,a2,a3,a4,a5,a6,a7,a8,a9,a10,a11,a12,a13,a14,a15,a16,a17,a18,a19,rfl⟩:=uw fr h
 kernel_rfl
def PostOC (s:List UInt8) (w:World) (e:Ending) (w':World):Prop:=Below w.heap.size w w'/\∃ C a cap,e=.returned (.agg (cmV C a cap).toArray)/\TC s C/\OI w.heap.size a cap C.ids w'
theorem commitOf_any (s:List UInt8) (hs:s.length<=200000) (w:World) (he:Ers w) (hm:Mx w):Calls Tryz.prog 81 #[.string ⟨s.toArray⟩] w (PostOC s w):=by
 obtain⟨i32,hi32,hz0,hz1,hz2⟩:=zQ Tryz.info56
 obtain⟨S,HS⟩:=nm_ (⟨s.toArray⟩:ByteArray)
 obtain⟨zr,HZ⟩:=nn_ ((cmV (cm0 z20) none 0).toArray)
 have hz60:∀ w:World,(zeroValue 158).run Tryz.prog w=.ok (.agg zr) w:=fun w=>by rw[HZ.out];exact zero60 w
 have HZS:Hid (zr.size=30):=hid (by rw[HZ.out,List.size_toArray];exact qu _ _ _ rfl)
 obtain⟨G,HG⟩:=nm_ w.heap.size
 obtain⟨w1,HW1⟩:=nm_ ((w.alloc (.cells zr 158)).alloc (.cells #[.string S] 230))
 have HB1:Hid (Below G w w1):=hid (by rw[<-HW1.out,<-HG.out];exact((Below.refl _ w).alloc (Nat.le_refl _) _).alloc (by simp) _)
 have HR1:Hid (w1.heap[G+1]? = some (.cells #[.string S] 230 (0,0))):=hid (by
  rw[<-HW1.out,<-HG.out]
  have:=heap_alloc_new (w.alloc (.cells zr 158)) (.cells #[.string S] 230)
  simpa using this)
 have HZ1:Hid (w1.heap[G]? = some (.cells zr 158 (0,0))):=hid (by
  rw[<-HW1.out,<-HG.out]
  have h1:=heap_alloc_new w (.cells zr 158)
  have h2:=((Below.refl (w.alloc (.cells zr 158)).heap.size (w.alloc (.cells zr 158))).alloc (Nat.le_refl _) (.cells #[.string S] 230)).block w.heap.size (by simp)
  exact h2.trans h1)
 have HE:Hid (∀ W,Below G w W->Ers W):=fun W hW=>he.below (by rw[HG.out];exact hW)
 have HM:Hid (∀ W,Below G w W->Mx W):=fun W hW=>hm.below (by rw[HG.out];exact hW)
 obtain⟨s1,K1⟩:=nm_ (rst s)
 have L1:Hid (s1.length<=200000):=hid (by rw[<-K1.out];exact Nat.le_trans (vK _) hs)
 obtain⟨S1,J1⟩:=nm_ (⟨s1.toArray⟩:ByteArray)
 have C0:Hid (Calls Tryz.prog 118 #[.pointer (some ⟨G+1,0,none⟩),.string ⟨#[116,114,101,101]⟩] w1 (PostI s Qw (G+1) w1)):=hid (rid_any s Qw hs (by decide) (Nat.le_trans (QY _ _) (by omega)) (G+1) w1 (by rw[HS.out];exact HR1.out) (HM.out _ HB1.out))
 rw[HS.out]
 clear he hm
 go_enter Tryz.func81,Tryz.ntmps81
 go_wp2_with fail
 rw[HG.out,HW1.out]
 refine C0.out.mono ?_
 rintro ev w2 ⟨fr,rfl,hpid,hrd⟩
 have HPI:Hid (PId (fld s Qw) fr):=hpid
 have HFL:Hid (fr.length=20):=hpid.1
 have HB2:Hid (Below G w w2):=hrd.below HB1.out (by omega) (z6 HR1.out)
 have HR2:Hid (w2.heap[G+1]? = some (.cells #[.string S1] 230 (0,0))):=hid (by rw[<-J1.out,<-K1.out];exact hrd.box)
 have HZ2:Hid (w2.heap[G]? = some (.cells zr 158 (0,0))):=hid ((hrd.block G (z6 HZ1.out) (by omega)).trans HZ1.out)
 clear hpid hrd C0
 obtain⟨B,HBB⟩:=nm_ ((cmV (cm0 fr) none 0).toArray)
 have HBU:Hid (Tryz.prog.built 158 [(0,.agg (row .u8 fr).toArray)]=some B):=hid (by rw[<-HBB.out];exact built60 fr HFL.out)
 have HBS:Hid (B.size=30):=hid (by rw[<-HBB.out,List.size_toArray];exact qu _ _ _ HFL.out)
 have hfold:List.foldl (fun (cs:Array Value) (x:Value × Nat)=>cs.setIfInBounds x.snd x.fst) zr (row .u8 fr).zipIdx=B:=by rw[HZ.out,<-HBB.out];exact fold60 fr HFL.out
 have D2:Hid ((Tryz.prog.info? 158).map (·.size)=some B.size):=hid (by rw[HBS.out];exact Tryz.size158)
 have D3:Hid (B.all (·.oneCell')=true):=hid (by rw[<-HBB.out];exact all_oneCell_toArray (xq _ _ _))
 have D0:Hid ((w2.alloc (.cells zr 158)).heap[w2.heap.size]? = some (.cells zr 158 (0,0))):=heap_alloc_new w2 _
 have D1:Hid (zr.size=B.size):=hid (by rw[HZS.out,HBS.out])
 have hrl:(row .u8 fr).length=20:=by rw[zq];exact HFL.out
 have hzs:zr.size=30:=HZS.out
 go_wp2_with (first
  | refine wpList_store_row rfl 158 _ _ rfl w2.heap.size B rfl rfl 158 zr D0.out D2.out D1.out D3.out ?_
  | fail)
 clear hrl hzs hfold
 obtain⟨G4,HG4⟩:=nm_ w2.heap.size
 have HLT:Hid (G+1<G4):=hid (by rw[<-HG4.out];exact z6 HR2.out)
 have CS3:Hid (CS G G4 zr S1 (cm0 fr) none 0 w ((w2.alloc (.cells zr 158)).setRow w2.heap.size B)):=hid (by
  have hlt:=HLT.out
  have h4:=HG4.out
  have hb2:=(Below.refl w2.heap.size w2).alloc (Nat.le_refl _) (.cells zr 158)
  refine⟨below_setRow (HB2.out.alloc (by omega) _) (by omega) B,?_,?_,?_⟩
  ·rw[setRow_other _ _ _ _ (by omega)]
   exact(hb2.block _ (by omega)).trans HR2.out
  ·rw[<-h4,HBB.out]
   exact setRow_heap _ _ _ B _ _ D0.out
  ·rw[setRow_other _ _ _ _ (by omega)]
   exact(hb2.block _ (by omega)).trans HZ2.out)
 rw[HG4.out] at CS3
 rw[HG4.out]
 generalize (w2.alloc (.cells zr 158)).setRow G4 B=w3 at CS3 ⊢
 have OI3:Hid (OI (G4+1) none 0 [] w3):=⟨rfl,.inl ⟨rfl,rfl⟩⟩
 simp only[Act.put]
 go_loopg [] s1.length (fun g wr=>∃ (ids:List (List Int)) (r:List UInt8) (a:Option Addr) (cap:Nat),g=r.length/\Hid (CS G G4 zr ⟨r.toArray⟩ ⟨fr,ids,⟨[],[],0,0⟩,⟨[],[],0,0⟩,[]⟩ a cap w wr)/\Hid (OI (G4+1) a cap ids wr)/\Hid (PQs s1 ids r))
 case atStart=>exact⟨[],s1,none,0,rfl,hid (by rw[J1.out];exact CS3.out),OI3,PQs.zero⟩
 case round =>
  obtain⟨ids,r,a,cap,hk,CSR,OIR,HQ⟩:=hrel
  obtain⟨R,HR⟩:=nm_ (⟨r.toArray⟩:ByteArray)
  have LR:Hid (r.length+ids.length<=200000):=hid (Nat.le_trans HQ.out.le L1.out)
  obtain⟨hp,HHP⟩:=nm_ (hasP r)
  have CH:Hid (Calls Tryz.prog 119 #[.pointer (some ⟨G+1,0,none⟩),.string ⟨#[112,97,114,101,110,116]⟩] wr fun e w'=>e=.returned (.bool hp)/\w'=wr):=hid (by rw[<-HHP.out];exact has_any r (G+1) wr CSR.out.box)
  go_wp2_with fail
  refine CH.out.mono ?_
  rintro ev wr' ⟨rfl,hwr⟩
  have hwr':=hwr.symm
  subst hwr'
  clear hwr CH
  cases hp with
  | true =>
   obtain⟨n,HN⟩:=nm_ ids.length
   have hn2:n<=200000:=by have:=LR.out;have:=HN.out;omega
   obtain⟨SV,HSV⟩:=nm_ (.slice a ids.length cap:Value)
   have hS0:wr.drew.cell? ⟨G4,20,none⟩=some SV:=by rw[<-HSV.out];exact(CSR.out.cell HFL.out 0 _ rfl).1
   have CSd:Hid (CS G G4 zr ⟨r.toArray⟩ ⟨fr,ids,⟨[],[],0,0⟩,⟨[],[],0,0⟩,[]⟩ a cap w wr.drew):=⟨⟨CSR.out.below.os,CSR.out.below.tape,CSR.out.below.output,CSR.out.below.size,CSR.out.below.block⟩,CSR.out.box,CSR.out.com,CSR.out.res⟩
   have OId:Hid (OI (G4+1) a cap ids wr.drew):=OIR
   have CR:Hid (Calls Tryz.prog 118 #[.pointer (some ⟨G+1,0,none⟩),.string ⟨#[112,97,114,101,110,116]⟩] wr.drew (PostI r qJ (G+1) wr.drew)):=hid (rid_any r qJ (by have:=LR.out;omega) (by decide) (Nat.le_trans (QY _ _) (by have:=LR.out;omega)) (G+1) wr.drew CSd.out.box (HM.out _ CSd.out.below))
   go_wp2_with fail
   refine region_U (fun w'=>w'.cell? ⟨G4,20,none⟩=some SV) 6 (by kernel_rfl) ?_
   generalize wr.drew=u0 at hS0 CSd OId CR ⊢
   refine kw (i:=0) (v:=?_) rfl (by kernel_rfl) (by kernel_rfl) (by kernel_rfl) (by kernel_rfl) (fun _ _ _ h=>h) (Or.inl ⟨by rfl,?_⟩) hS0 ?_
   rotate_left
   ·intro w' s0;go_simp;rfl
   try simp only[Act.put,sL]
   refine kw (i:=1) (v:=?_) rfl (by kernel_rfl) (by kernel_rfl) (by kernel_rfl) (by kernel_rfl) (fun _ _ _ h=>h) (Or.inl ⟨by rfl,?_⟩) hS0 ?_
   rotate_left
   ·intro w' s0;go_simp;rfl
   try simp only[Act.put,sL]
   refine Vj (i:=2) (by kernel_rfl) (consU rfl (fun KK hKK=>?_))
   refine zk (by rfl) 118 [.tmp 3,.const (.string ⟨#[112,97,114,101,110,116]⟩)] _ [.pointer (some ⟨G+1,0,none⟩),.string ⟨#[112,97,114,101,110,116]⟩] _ (by rfl) (by rfl) (enter138 _ _) CR.out ?_
   rintro e u1 ⟨fx,rfl,hpx,hrx⟩
   refine⟨_,rfl,?_⟩
   have HPX:Hid (PId (fld r qJ) fx):=hpx
   obtain⟨rr,HRR⟩:=nm_ (rst r)
   have CSA:Hid (CS G G4 zr ⟨rr.toArray⟩ ⟨fr,ids,⟨[],[],0,0⟩,⟨[],[],0,0⟩,[]⟩ a cap w u1):=hid (by rw[<-HRR.out];exact CSd.out.rd HLT.out hrx)
   have OIA:Hid (OI (G4+1) a cap ids u1):=OId.out.rd hrx (by have:=HLT.out;omega)
   clear hpx hrx
   have hS1:u1.cell? ⟨G4,20,none⟩=some SV:=by rw[<-HSV.out];exact(CSA.out.cell HFL.out 0 _ rfl).1
   refine hKK.out _ _ (.inr hS1) ?_
   clear hKK KK hS0
   try simp only[Act.put,sL]
   obtain⟨RF,HRF⟩:=nm_ (row .u8 fx)
   have hRL:RF.length=20:=by rw[<-HRF.out,zq];exact HPX.out.1
   rw[HRF.out]
   refine Vj (i:=3) (by kernel_rfl) (consU rfl (fun KK hKK=>?_))
   obtain⟨u2,HU2⟩:=nm_ (u1.alloc (.cells RF.toArray 56))
   obtain⟨b2,Hb2⟩:=nm_ u1.heap.size
   have hb2:Below u1.heap.size u1 u2:=by rw[<-HU2.out];exact(Below.refl _ _).alloc (Nat.le_refl _) _
   have HN2:Hid (∀ j u,RF[j]? = some u->u2.cell? ((⟨b2,0,none⟩:Addr).add j)=some u):=hid (by rw[<-HU2.out,<-Hb2.out];exact news_row _ _ _)
   have CSB:Hid (CS G G4 zr ⟨rr.toArray⟩ ⟨fr,ids,⟨[],[],0,0⟩,⟨[],[],0,0⟩,[]⟩ a cap w u2):=CSA.out.grow hb2
   have OIB:Hid (OI (G4+1) a cap ids u2):=OIA.out.keep hb2
   refine zZ (by rfl) (.slice (some ⟨b2,0,none⟩) 1 1) (w':=u2) (by rw[<-HU2.out,<-Hb2.out];go_simp;rw[<-HRF.out,fold32 fx HPX.out.1]) ?_
   have hS2:u2.cell? ⟨G4,20,none⟩=some SV:=by rw[<-HSV.out];exact(CSB.out.cell HFL.out 0 _ rfl).1
   refine hKK.out _ _ (.inr hS2) ?_
   clear hKK KK hS1 hb2
   try simp only[Act.put,sL]
   have OWB:Hid (u2.ownsRow (G4+1) 56 20 SV n (ids.flatMap (row .u8))):=hid (by rw[<-HSV.out,<-HN.out];exact OIB.out)
   refine Vj (i:=4) (by kernel_rfl) (consU rfl (fun KK hKK=>?_))
   refine jK u2 (by rfl) _ _ 23 rfl (G4+1) 56 i32 (.agg (row .u8 z20).toArray) 20 20 Tryz.underlying23 hi32 hz0 hz1 hz2 rfl (by decide) SV n (ids.flatMap (row .u8)) (by rfl) OWB.out ⟨b2,0,none⟩ 1 1 RF (by rfl) (by rw[hRL]) HN2.out (by rw[<-HRF.out];exact zV _ _) (by unfold maxLen;omega) (by omega) (Nat.succ_le_of_lt (z6 CSB.out.com)) _ rfl ?_
   intro ao cap2 u3 hown hg hloc
   have OIC:Hid (OI (G4+1) ao cap2 (ids++[fx]) u3):=OI.snoc HN.out (by rw[HRF.out];exact hown)
   have CSC:Hid (CS G G4 zr ⟨rr.toArray⟩ ⟨fr,ids,⟨[],[],0,0⟩,⟨[],[],0,0⟩,[]⟩ a cap w u3):=CSB.out.grown HLT.out hg (fun k hk=>by
    obtain⟨_,⟨hv,_⟩ | ⟨g2,c2,cur,hv,hb,_⟩⟩:=OWB.out
    ·rw[hv] at hk;cases hk
    ·rw[hv] at hk
     have:g2=k:=by simpa [Value.ownBlock] using hk
     omega)
   clear hown hg hloc
   have hS3:u3.cell? ⟨G4,20,none⟩=some SV:=by rw[<-HSV.out];exact(CSC.out.cell HFL.out 0 _ rfl).1
   have hf3:u3.frozen? ⟨G4,20,none⟩=false:=(CSC.out.cell HFL.out 0 _ rfl).2
   refine hKK.out _ _ (.inr hS3) ?_
   clear hKK KK hS2
   try simp only[Act.put,sL]
   refine kw (i:=5) (v:=?_) rfl (by kernel_rfl) (by kernel_rfl) (by kernel_rfl) (by kernel_rfl) (fun _ _ _ h=>h) (Or.inl ⟨by rfl,?_⟩) hS3 ?_
   rotate_left
   ·intro w' s0;go_simp;rfl
   try simp only[Act.put,sL]
   refine Vj (i:=6) (by kernel_rfl) (consU rfl (fun KK hKK=>?_))
   go_simp
   refine hKK.out _ _ (.inl rfl) ?_
   clear hKK KK
   try simp only[Act.put,sL]
   refine doneU (by kernel_rfl) ?_ _
   have CSD:Hid (CS G G4 zr ⟨rr.toArray⟩ ⟨fr,ids++[fx],⟨[],[],0,0⟩,⟨[],[],0,0⟩,[]⟩ ao cap2 w (u3.setCell ⟨G4,20,none⟩ (.slice ao (n+1:Nat) cap2))):=CSC.out.set HLT.out HFL.out 0 _ (by
    have e:(ids++[fx]).length=n+1:=by simp[HN.out]
    unfold cmV cmT
    rw[e]
    rfl)
   have OID:Hid (OI (G4+1) ao cap2 (ids++[fx]) (u3.setCell ⟨G4,20,none⟩ (.slice ao (n+1:Nat) cap2))):=hid (by
    have hgr:u3.grownBy (u3.setCell ⟨G4,20,none⟩ (.slice ao (n+1:Nat) cap2)) (some G4):=⟨rfl,rfl,rfl,by simp[World.setCell],fun k hk hne=>heap_setCell_other u3 ⟨G4,20,none⟩ k _ (fun e=>hne (by rw[e]))⟩
    refine World.ownsRow.kept OIC.out hgr ?_
    obtain⟨_,⟨hv,_⟩ | ⟨g2,c2,cur,hv,hb,_⟩⟩:=OIC.out
    ·rw[hv];left;rfl
    ·rw[hv];right
     simp[Value.ownBlock]
     omega)
   generalize u3.setCell ⟨G4,20,none⟩ (.slice ao (n+1:Nat) cap2)=u4 at CSD OID ⊢
   clear hS3 hf3 hRL
   have HQ2:Hid (PQs s1 (ids++[fx]) rr):=hid (by rw[<-HRR.out];exact PQs.step HQ.out HHP.out HPX.out)
   have hlt:rr.length<r.length:=by
    have h1:=(PQs.step (s:=r) PQs.zero HHP.out HPX.out).le
    rw[HRR.out] at h1
    simp at h1
    omega
   go_wp2
   go_roundg rr.length
   case measure=>rw[hk];exact hlt
   case rel=>exact⟨ids++[fx],rr,ao,cap2,rfl,CSD,OID,HQ2⟩
  | false =>
   obtain⟨r1,Q1⟩:=nm_ (rst r)
   obtain⟨r2,Q2⟩:=nm_ (rst r1)
   obtain⟨r3,Q3⟩:=nm_ (rst r2)
   have M0:Hid (r.length<=200000):=hid (by have:=LR.out;omega)
   have M1:Hid (r1.length<=200000):=hid (by rw[<-Q1.out];exact Nat.le_trans (vK _) M0.out)
   have M2:Hid (r2.length<=200000):=hid (by rw[<-Q2.out];exact Nat.le_trans (vK _) M1.out)
   obtain⟨R1,J1'⟩:=nm_ (⟨r1.toArray⟩:ByteArray)
   obtain⟨R2,J2'⟩:=nm_ (⟨r2.toArray⟩:ByteArray)
   obtain⟨R3,J3'⟩:=nm_ (⟨r3.toArray⟩:ByteArray)
   obtain⟨F1,N1⟩:=nm_ (⟨(fld r xx).toArray⟩:ByteArray)
   obtain⟨F2,N2⟩:=nm_ (⟨(fld r1 qy).toArray⟩:ByteArray)
   have X1:Hid (∀ W,Below G w W->W.heap[G+1]? = some (.cells #[.string R] 230 (0,0))->Calls Tryz.prog 121 #[.pointer (some ⟨G+1,0,none⟩),.string ⟨#[97,117,116,104,111,114]⟩] W fun e w'=>e=.returned (.string F1)/\Rd (G+1) R1 W w'):=fun W hW hb=>by
    rw[<-N1.out,<-J1'.out,<-Q1.out]
    exact uZ r xx (Nat.le_trans M0.out (by omega)) (by decide) (G+1) W (by rw[HR.out];exact hb) (HM.out _ hW)
   have X2:Hid (∀ W,Below G w W->W.heap[G+1]? = some (.cells #[.string R1] 230 (0,0))->Calls Tryz.prog 121 #[.pointer (some ⟨G+1,0,none⟩),.string ⟨#[99,111,109,109,105,116,116,101,114]⟩] W fun e w'=>e=.returned (.string F2)/\Rd (G+1) R2 W w'):=fun W hW hb=>by
    rw[<-N2.out,<-J2'.out,<-Q2.out]
    exact uZ r1 qy (Nat.le_trans M1.out (by omega)) (by decide) (G+1) W (by rw[J1'.out];exact hb) (HM.out _ hW)
   have X3:Hid (∀ W,Below G w W->W.heap[G+1]? = some (.cells #[.string R2] 230 (0,0))->Calls Tryz.prog 122 #[.pointer (some ⟨G+1,0,none⟩)] W fun e w'=>e=.returned (.string ⟨(Lib.cut r2 [10]).1.toArray⟩)/\Rd (G+1) R3 W w'):=fun W hW hb=>by
    rw[<-J3'.out,<-Q3.out]
    exact rline_any r2 (Nat.le_trans M2.out (by omega)) (G+1) W (by rw[J2'.out];exact hb) (HM.out _ hW)
   have Y1:Hid (∀ W,Below G w W->Calls Tryz.prog 120 #[.string F1] W fun e w'=>Below W.heap.size W w'/\PostQ (fld r xx) e):=fun W hW=>by
    rw[<-N1.out]
    exact ZJ _ (Nat.le_trans (QY _ _) (Nat.le_trans M0.out (by omega))) W (HE.out _ hW) (HM.out _ hW)
   have Y2:Hid (∀ W,Below G w W->Calls Tryz.prog 120 #[.string F2] W fun e w'=>Below W.heap.size W w'/\PostQ (fld r1 qy) e):=fun W hW=>by
    rw[<-N2.out]
    exact ZJ _ (Nat.le_trans (QY _ _) (Nat.le_trans M1.out (by omega))) W (HE.out _ hW) (HM.out _ hW)
   rw[HR.out] at CSR
   go_wp2_with fail
   refine(X1.out wr CSR.out.below CSR.out.box).mono ?_
   rintro ev u1 ⟨rfl,hrd⟩
   have CA:Hid (CS G G4 zr R1 ⟨fr,ids,⟨[],[],0,0⟩,⟨[],[],0,0⟩,[]⟩ a cap w u1):=CSR.out.rd HLT.out hrd
   have OA:Hid (OI (G4+1) a cap ids u1):=OIR.out.rd hrd (by have:=HLT.out;omega)
   clear hrd
   go_wp2_with fail
   refine(Y1.out u1 CA.out.below).mono ?_
   rintro ev u2 ⟨hb,p1,rfl,hpp⟩
   have HP1:Hid (PP (fld r xx) p1):=hpp
   have CB:Hid (CS G G4 zr R1 ⟨fr,ids,⟨[],[],0,0⟩,⟨[],[],0,0⟩,[]⟩ a cap w u2):=CA.out.grow hb
   have OB:Hid (OI (G4+1) a cap ids u2):=OA.out.keep hb
   clear hb hpp
   have E1:Hid (u2.there G4 21 (qK p1).size):=zy CB.out.com 21 (by
    have h:=qu (⟨fr,ids,⟨[],[],0,0⟩,⟨[],[],0,0⟩,[]⟩:Cm) a cap HFL.out
    exact Nat.le_trans (show 21+4<=30 by omega) (Nat.le_of_eq h.symm))
   have E2:Hid ((Tryz.prog.info? 156).map (·.size)=some (qK p1).size):=Tryz.size156
   have E3:Hid ((qK p1).all (·.oneCell')=true):=Zk p1
   obtain⟨u3,HU3⟩:=nm_ (u2.setCells G4 21 (qK p1).toList)
   have CC:Hid (CS G G4 zr R1 ⟨fr,ids,p1,⟨[],[],0,0⟩,[]⟩ a cap w u3):=hid (by rw[<-HU3.out];exact CB.out.au HLT.out HFL.out p1)
   have OC:Hid (OI (G4+1) a cap ids u3):=hid (by rw[<-HU3.out];exact OB.out.setCells (by omega) _ _)
   go_wp2_with (first
    | (refine wpList_store_mid rfl 156 _ _ rfl G4 21 (qK p1) rfl rfl E1.out E2.out E3.out ?_;rw[HU3.out])
    | fail)
   refine(X2.out u3 CC.out.below CC.out.box).mono ?_
   rintro ev u4 ⟨rfl,hrd⟩
   have CD:Hid (CS G G4 zr R2 ⟨fr,ids,p1,⟨[],[],0,0⟩,[]⟩ a cap w u4):=CC.out.rd HLT.out hrd
   have OD:Hid (OI (G4+1) a cap ids u4):=OC.out.rd hrd (by have:=HLT.out;omega)
   clear hrd
   go_wp2_with fail
   refine(Y2.out u4 CD.out.below).mono ?_
   rintro ev u5 ⟨hb,p2,rfl,hpp⟩
   have HP2:Hid (PP (fld r1 qy) p2):=hpp
   have CE:Hid (CS G G4 zr R2 ⟨fr,ids,p1,⟨[],[],0,0⟩,[]⟩ a cap w u5):=CD.out.grow hb
   have OE:Hid (OI (G4+1) a cap ids u5):=OD.out.keep hb
   clear hb hpp
   have E4:Hid (u5.there G4 25 (qK p2).size):=zy CE.out.com 25 (by
    have h:=qu (⟨fr,ids,p1,⟨[],[],0,0⟩,[]⟩:Cm) a cap HFL.out
    exact Nat.le_trans (show 25+4<=30 by omega) (Nat.le_of_eq h.symm))
   have E5:Hid ((Tryz.prog.info? 156).map (·.size)=some (qK p2).size):=Tryz.size156
   have E6:Hid ((qK p2).all (·.oneCell')=true):=Zk p2
   obtain⟨u6,HU6⟩:=nm_ (u5.setCells G4 25 (qK p2).toList)
   have CF:Hid (CS G G4 zr R2 ⟨fr,ids,p1,p2,[]⟩ a cap w u6):=hid (by rw[<-HU6.out];exact CE.out.co HLT.out HFL.out p2)
   have OF:Hid (OI (G4+1) a cap ids u6):=hid (by rw[<-HU6.out];exact OE.out.setCells (by omega) _ _)
   go_wp2_with (first
    | (refine wpList_store_mid rfl 156 _ _ rfl G4 25 (qK p2) rfl rfl E4.out E5.out E6.out ?_;rw[HU6.out])
    | fail)
   refine(X3.out u6 CF.out.below CF.out.box).mono ?_
   rintro ev u7 ⟨rfl,hrd⟩
   have CGx:Hid (CS G G4 zr R3 ⟨fr,ids,p1,p2,[]⟩ a cap w u7):=CF.out.rd HLT.out hrd
   have OG:Hid (OI (G4+1) a cap ids u7):=OF.out.rd hrd (by have:=HLT.out;omega)
   clear hrd
   obtain⟨c29,f29⟩:=CGx.out.cell HFL.out 9 _ rfl
   have cr:u7.cell? ⟨G+1,0,none⟩=some (.string R3):=by rw[cell_of_row u7 (G+1) 0 _ _ _ CGx.out.box];rfl
   obtain⟨C,HCC⟩:=nn_ (⟨fr,ids,p1,p2,r3⟩:Cm)
   have CHx:Hid (CS G G4 zr R3 C a cap w (u7.setCell ⟨G4,29,none⟩ (.string R3))):=CGx.out.set HLT.out HFL.out 9 _ (by rw[HCC.out,<-J3'.out];rfl)
   have OH:Hid (OI (G4+1) a cap ids (u7.setCell ⟨G4,29,none⟩ (.string R3))):=OG.out.setCells (g:=G4) (by omega) 29 [.string R3]
   have HTL:Hid (C.tree.length=20):=hid (by rw[HCC.out];exact HFL.out)
   obtain⟨TV,HTV⟩:=nm_ (cmV C a cap)
   have HVL:Hid (TV.length=30):=hid (by rw[<-HTV.out];exact qu C a cap HTL.out)
   have CT:Hid ((u7.setCell ⟨G4,29,none⟩ (.string R3)).rangeAt G4 0 TV):=hid (by rw[<-HTV.out];exact zx CHx.out.com)
   have CSx:Hid ((u7.setCell ⟨G4,29,none⟩ (.string R3)).there G 0 TV.toArray.size):=hid (zy CHx.out.res 0 (by rw[List.size_toArray,HVL.out,HZS.out];omega))
   have CSy:Hid ((u7.setCell ⟨G4,29,none⟩ (.string R3)).there G 0 TV.length):=hid (zy CHx.out.res 0 (by rw[HVL.out,HZS.out];omega))
   have hi60:(Tryz.prog.info? 158).map (·.size)=some TV.length:=by rw[HVL.out];exact Tryz.size158
   have CI:Hid ((Tryz.prog.info? 158).map (·.size)=some TV.toArray.size):=hid (by rw[List.size_toArray];exact hi60)
   have CO:Hid (TV.toArray.all (·.oneCell')=true):=hid (by rw[<-HTV.out];exact all_oneCell_toArray (xq C a cap))
   have c29':u7.cell? ⟨G4,29,none⟩=some (.string ⟨#[]⟩):=c29
   have f29':u7.frozen? ⟨G4,29,none⟩=false:=f29
   clear c29 f29
   go_wp2_with (first
    | refine wpList_load_mid rfl 158 _ rfl G4 0 rfl TV _ CT.out Tryz.underlying158 rfl hi60 ?_
    | refine wpList_store_mid rfl 158 _ _ rfl G 0 TV.toArray rfl rfl CSx.out CI.out CO.out ?_)
   refine bodyPost_ret (v:=.agg TV.toArray) (yq Tryz.results81 _ _ G TV _ rfl (World.rangeAt_setCells_same _ G 0 _ CSy.out) Tryz.underlying158 rfl hi60) rfl ⟨?_,?_⟩
   ·rw[HG.out]
    exact z7 (Nat.le_refl _) _ _ _ _ CHx.out.below
   ·refine⟨C,a,cap,by rw[HTV.out],?_,?_⟩
    ·rw[HCC.out]
     refine⟨HPI.out,r,?_,HHP.out,HP1.out,?_,?_⟩
     ·rw[K1.out];exact HQ.out
     ·rw[Q1.out];exact HP2.out
     ·rw[Q1.out,Q2.out,Q3.out]
    ·have h1:OI (G4+1) a cap ids ((u7.setCell ⟨G4,29,none⟩ (.string R3)).setCells G 0 TV):=OH.out.setCells (by have:=HLT.out;omega) _ _
     rw[HG.out]
     have h2:=h1.lower (show G<=G4+1 by have:=HLT.out;omega)
     rw[HCC.out]
     exact h2
end Go.Proofs.YticgindfipobiaaGreatDoor
