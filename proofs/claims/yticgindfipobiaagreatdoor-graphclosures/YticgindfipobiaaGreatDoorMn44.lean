import Derived.Test.YticgindfipobiaaGreatDoorMn42
import Derived.OwnWalk
import Derived.Test.YticgindfipobiaaGreatDoorMn43
set_option linter.unusedSimpArgs false
set_option linter.unusedVariables false
set_option maxRecDepth 20000
set_option maxHeartbeats 4000000
namespace Go.Proofs.YticgindfipobiaaGreatDoor.Gr
open Go.RowKit
set_option maxHeartbeats 1000000 in
theorem Yy {w:World} (a:Option Addr) (cap:Nat) (l:List (List Int)) (hP:Pa w a cap l) (hw:∀ x ∈ l,IdW x) (hn:l.length<=1000):Calls Tryz.prog 6 #[.slice a l.length cap] w fun e w'=>∃ v,e=.returned v/\Bi 31 w w' w.heap.size v l:=by
 obtain⟨n,HN⟩:=nm_ l.length
 obtain⟨G,HG⟩:=nm_ w.heap.size
 have hnn:n<=1000:=by rw[<-HN.out];exact hn
 have HPA:Hid (∀ W,Below G w W->Pa W a cap l):=fun W hW=>hP.below (by rw[HG.out];exact hW)
 have HPL:Hid (0<n->∃ b off,a=some ⟨b,off,none⟩):=fun h0=>by
  obtain⟨b,off,e1,e2,_⟩:=hP.at_ (by rw[HN.out];exact h0)
  exact⟨b,off,e1⟩
 have HWF:Hid (∀ x ∈ l,IdW x):=hw
 have HE0:Hid (Bi 31 w w G (.slice none 0 0) (l.take 0)):=hid (XK 31 w G (by rw[HG.out];exact Nat.le_refl _))
 rw[HN.out]
 clear hP hw
 go_enter Tryz.func6,Tryz.ntmps6
 go_wp2_with fail
 go_loopg [3,4] n (fun g u iv wr=>∃ (i:Nat) (v:Value),v=u/\i<=n/\g=n-i/\iv=.int .i64 i/\Hid (Bi 31 w wr G v (l.take i)))
 case atStart=>exact⟨0,_,rfl,Nat.zero_le _,rfl,rfl,HE0⟩
 case round =>
  obtain⟨i,v,hv,hi,hk,rfl,HBE⟩:=hrel
  subst hv
  by_cases hlt:i<n
  ·have hlti:(i:Int)<(n:Int):=by omega
   obtain⟨b,off,hae⟩:=HPL.out (by omega)
   subst hae
   obtain⟨x,HX⟩:=nm_ (l.getD i [])
   have hxm:x ∈ l:=by rw[<-HX.out];exact yK l i _ (by rw[HN.out];exact hlt)
   have HX20:Hid (x.length=20):=(HWF.out x hxm).1
   obtain⟨RI,HRI⟩:=nm_ (row .u8 x)
   have hiI:(Tryz.prog.info? 56).map (·.size)=some RI.length:=by rw[<-HRI.out,zq,HX20.out];exact Tryz.size56
   have RR:Hid (wr.rangeAt b (off+i*20) RI):=hid (by
    obtain⟨b',off',e1,_,e3⟩:=(HPA.out wr HBE.out.below).at_ (by rw[HN.out];omega)
    cases e1
    have:=e3 i (by rw[HN.out];exact hlt)
    rw[HX.out,HRI.out] at this
    exact this)
   obtain⟨K7,HK7⟩:=nm_ wr.heap.size
   have HBLD:Hid ((Instr.buildSlice 38 1 #[(0,.agg RI.toArray)]).run Tryz.prog wr=.ok (.slice (some ⟨K7,0,none⟩) 1 1) (wr.alloc (.cells RI.toArray 31))):=hid (by rw[<-HK7.out,<-HRI.out];exact kQ x HX20.out wr)
   have HV7:Hid (Bi 31 w (wr.alloc (.cells RI.toArray 31)) G v (l.take i)):=hid (HBE.out.alloc _)
   have HP8:Hid (Pa (wr.alloc (.cells RI.toArray 31)) (some ⟨K7,0,none⟩) 1 [x]):=hid (by rw[<-HK7.out,<-HRI.out];exact k6 wr x 31)
   have HSUM:Hid ((l.take i).length + [x].length<=100000):=hid (by rw[List.length_take,HN.out];simp only[List.length_cons,List.length_nil];omega)
   have HONE1:Hid (∀ z ∈ [x],(row .u8 z).length=20):=fun z hz=>by
    have:z=x:=by simpa using hz
    rw[this,zq];exact HX20.out
   clear hxm
   go_wp2_with (first
    | refine wpList_load_mid rfl 56 _ rfl b (off+i*20) rfl RI _ RR.out Tryz.underlying56 rfl hiI ?_
    | refine vz rfl 38 1 _ rfl (.agg RI.toArray) _ rfl HBLD.out ?_
    | (refine yZ (d:=[]) rfl _ _ 38 31 Tryz.underlying38 Tryz.info31 rfl (by decide) (by decide) (fun z=>zV _ z) rfl G v _ rfl HV7.out (some ⟨K7,0,none⟩) 1 [x] rfl HP8.out HONE1.out HSUM.out ?_;intro v8 w8 hb8 hg8)
    | fail)
   have HB8:Hid (Bi 31 w w8 G v8 (l.take (i+1))):=hid (by rw[xW [] l i (by rw[HN.out];exact hlt),HX.out];exact hb8)
   clear hb8 hg8
   go_roundg (n-(i+1))
   case measure=>omega
   case rel=>exact⟨i+1,v8,rfl,by omega,rfl,by go_num,HB8⟩
  ·have hlti:¬ (i:Int)<(n:Int):=by omega
   have HBZ:Hid (Bi 31 w wr G v l):=hid (by
    have:=HBE.out
    rw[List.take_of_length_le (by rw[HN.out];omega)] at this
    exact this)
   go_wp2
   go_ret
   exact⟨v,rfl,by rw[HG.out];exact HBZ.out⟩
def key (x:Nd):List Int × List (List Int) × Int:=(x.id,x.ps,x.tm)
theorem bytesOf_inj {x y:List Int} (hx:IdW x) (hy:IdW y) (h:Lib.bytesOf x=Lib.bytesOf y):x=y:=by
 have key:∀ (x y:List Int),IsB x->IsB y->Lib.bytesOf x=Lib.bytesOf y->x=y:=by
  intro x
  induction x with
  | nil=>intro y _ _ h;cases y with
   | nil=>rfl
   | cons b s=>simp[Lib.bytesOf] at h
  | cons a r ih =>
   intro y hx hy h
   cases y with
   | nil=>simp[Lib.bytesOf] at h
   | cons b s =>
    have ha:=hx a (by simp)
    have hb:=hy b (by simp)
    have h2:=ih s (fun z hz=>hx z (by simp[hz])) (fun z hz=>hy z (by simp[hz])) (by simp only[Lib.bytesOf,List.map_cons,List.cons.injEq] at h ⊢;exact h.2)
    have h3:a=b:=by
     simp only[Lib.bytesOf,List.map_cons,List.cons.injEq] at h
     have:=congrArg UInt8.toNat h.1
     simp at this
     omega
    rw[h2,h3]
 exact key x y hx.2 hy.2 h
theorem Vu {x y:List Int} (hx:IdW x) (hy:IdW y) (h1:¬ Lib.bytesOf x<Lib.bytesOf y) (h2:¬ Lib.bytesOf y<Lib.bytesOf x):x=y:=bytesOf_inj hx hy (List.le_antisymm (List.not_lt.1 h2) (List.not_lt.1 h1))
theorem bl_lt:∀ x y:List UInt8,Op.bytesLess x y=decide (x<y)
 | [],[]=>by simp[Op.bytesLess]
 | [],b :: y=>by simp[Op.bytesLess]
 | a :: x,[]=>by simp[Op.bytesLess]
 | a :: x,b :: y=>by
  rw[Op.bytesLess,bl_lt x y]
  rw[Bool.eq_iff_iff]
  simp[List.cons_lt_cons_iff]
theorem conv_str {w:World} {b off:Nat} {x:List Int} (hx:x.length=20) (h:w.rangeAt b off (row .u8 x)):(convert 26 9 (.slice (some ⟨b,off,none⟩) 20 20)).run Tryz.prog w=.ok (.string ⟨(Lib.bytesOf x).toArray⟩) w:=by
 have e3:∀ i,i<x.length->w.cell? ⟨b,off+i,none⟩=some (.int .u8 (x.getD i 0)):=fun i hi=>h i _ (by rw[vq _ _ _ hi])
 have:=run_convert_bytes_arg (P:=Tryz.prog) w 26 5 Tryz.underlying26 Tryz.underlying5 b off x.length 20 x rfl e3 9 Tryz.underlying9
 rw[hx] at this
 rw[this]
 congr 2
def Rs (xs:List (List Int)):Prop:=xs.Pairwise (fun x y=>Lib.bytesOf x<Lib.bytesOf y)
theorem Rs.nodup {xs:List (List Int)} (h:Rs xs):xs.Nodup:=h.imp (fun {a b} hab e=>by rw[e] at hab;exact List.lt_irrefl _ hab)
theorem take_mem {L:List (List Int)} {j:Nat} {a:List Int} (h:a ∈ L.take j):∃ k,k<j/\L.getD k []=a:=by
 obtain⟨k,hk⟩:=List.getElem?_of_mem h
 have h1:=(List.getElem?_eq_some_iff.1 hk).1
 rw[List.length_take] at h1
 rw[List.getElem?_take_of_lt (by omega)] at hk
 exact⟨k,by omega,by rw[List.getD_eq_getElem?_getD,hk];rfl⟩
theorem rs_ins {L:List (List Int)} {x:List Int} {j:Nat} (hL:Rs L) (hj:j<=L.length) (h1:∀ k,k<j->Lib.bytesOf (L.getD k [])<Lib.bytesOf x) (h2:j=L.length ∨ Lib.bytesOf x<Lib.bytesOf (L.getD j [])):Rs (L.take j++x :: L.drop j):=by
 have h3:Rs (L.take j++L.drop j):=by rw[List.take_append_drop];exact hL
 obtain⟨p1,p2,p3⟩:=List.pairwise_append.1 h3
 have hxd:∀ y ∈ L.drop j,Lib.bytesOf x<Lib.bytesOf y:=fun y hy=>by
  by_cases e:j=L.length
  ·rw[List.drop_of_length_le (by omega)] at hy;cases hy
  ·have h4:=h2.resolve_left e
   have hd:L.drop j=L.getD j [] :: L.drop (j+1):=by rw[List.drop_eq_getElem_cons (by omega),List.getD_eq_getElem?_getD,List.getElem?_eq_getElem (by omega)];rfl
   rw[hd] at hy p2
   rcases List.mem_cons.1 hy with rfl | hy
   ·exact h4
   ·exact List.lt_trans h4 ((List.pairwise_cons.1 p2).1 y hy)
 refine List.pairwise_append.2 ⟨p1,List.pairwise_cons.2 ⟨hxd,p2⟩,fun a ha b hb=>?_⟩
 obtain⟨k,hk,e⟩:=take_mem ha
 have hax:Lib.bytesOf a<Lib.bytesOf x:=by rw[<-e];exact h1 k hk
 rcases List.mem_cons.1 hb with rfl | hb
 ·exact hax
 ·exact p3 a ha b hb
theorem lst_ins {es L:List (List Int)} {x:List Int} {i j:Nat} (hx:IdW x) (h:vW (· ∈ es.take i) L) (ht:es.take (i+1)=es.take i++[x]) (hr:Rs (L.take j++x :: L.drop j)):vW (· ∈ es.take (i+1)) (L.take j++x :: L.drop j):=by
 have hm:∀ y,y ∈ L.take j++x :: L.drop j ↔ y=x ∨ y ∈ L:=fun y=>by
  have:(L.take j++x :: L.drop j).Perm (x :: L):=by
   have:=List.perm_middle (a:=x) (l₁:=L.take j) (l₂:=L.drop j)
   rwa [List.take_append_drop] at this
  rw[this.mem_iff,List.mem_cons]
 refine⟨hr.nodup,fun y hy=>?_,fun y hy=>?_⟩
 ·rcases(hm y).1 hy with rfl | h2
  ·exact hx
  ·exact h.idw y h2
 ·rw[hm y,ht,List.mem_append,List.mem_singleton,h.all y hy]
  exact Or.comm
theorem lst_has {es L:List (List Int)} {x:List Int} {i:Nat} (h:vW (· ∈ es.take i) L) (ht:es.take (i+1)=es.take i++[x]) (hx:x ∈ L):vW (· ∈ es.take (i+1)) L :=
 ⟨h.one,h.idw,fun y hy=>by
  rw[ht,List.mem_append,List.mem_singleton,h.all y hy]
  exact⟨.inl,fun h2=>h2.elim (fun h=>h) (fun e=>by rw[e];exact(h.all x (h.idw x hx)).1 hx)⟩⟩
def adr (a:Option Addr) (cap j:Nat):Option Addr:=if cap=j then a else a.map (·.add (j*20))
theorem Pa.drop {w:World} {a:Option Addr} {cap:Nat} {es:List (List Int)} (h:Pa w a cap es) (j:Nat) (hj:j<=es.length):Pa w (adr a cap j) (cap-j) (es.drop j) :=
 ⟨by rw[List.length_drop];have:=h.capl;omega,fun h0=>by
  rw[List.length_drop] at h0
  obtain⟨b,off,e1,e2,e3⟩:=h.at_ (by omega)
  subst e1
  have hc:=h.capl
  refine⟨b,off+j*20,by unfold adr;rw[if_neg (by omega),Option.map_some,qz],e2,fun i hi=>?_⟩
  rw[List.length_drop] at hi
  have:=e3 (j+i) (by omega)
  rw[show (es.drop j).getD i []=es.getD (j+i) [] by rw[List.getD_eq_getElem?_getD,List.getD_eq_getElem?_getD,List.getElem?_drop]]
  rw[show off+j*20+i*20=off+(j+i)*20 by rw[Nat.add_mul];omega]
  exact this,fun h2=>by
  have:a=none:=by
   unfold adr at h2
   split at h2
   ·exact h2
   ·cases a with
    | none=>rfl
    | some p=>cases h2
  have:=h.nil this
  omega⟩
theorem elem35:Tryz.prog.underlying 38=some (.slice (Tryz.prog.elem 38)):=by kernel_rfl
theorem size35e (w:World):(sizeOf (Tryz.prog.elem 38)).run Tryz.prog w=.ok 20 w:=by kernel_rfl
theorem slP_to (a:Option Addr) (n cap j:Nat) (h:j<=cap) (w:World):(Instr.slice 38 (.slice a n cap) none (some (.int .i64 j)) none).run Tryz.prog w=.ok (.slice a j cap) w:=by
 rw[run_slice_h w 38 a n cap elem35 .i64 j (by omega) (by omega),size35e,Result.andThen_ok,sliced]
 congr 2
 split
 ·rfl
 ·cases a with
  | none=>rfl
  | some p=>obtain⟨b,o,f⟩:=p;simp[Addr.add]
theorem slP_from (a:Option Addr) (n cap j:Nat) (h:j<=n) (w:World):(Instr.slice 38 (.slice a n cap) (some (.int .i64 j)) none none).run Tryz.prog w=.ok (.slice (adr a cap j) (n-j) (cap-j)) w:=by
 rw[run_slice_l w 38 a n cap elem35 .i64 j (by omega) (by omega),size35e,Result.andThen_ok,sliced]
 rfl
structure QC (b1 o1 b2 o2:Nat) (SY SX:ByteArray) (W:World):Prop where
 c1:(convert 26 9 (.slice (some ⟨b1,o1,none⟩) 20 20)).run Tryz.prog W=.ok (.string SY) W
 c2:(convert 26 9 (.slice (some ⟨b2,o2,none⟩) 20 20)).run Tryz.prog W=.ok (.string SX) W
structure QD (b1 o1 b2 o2:Nat) (Y X:List Value) (W:World):Prop where
 r0:W.rangeAt b1 o1 Y
 r1:W.rangeAt b2 o2 X
theorem Zu {w:World} {B B':Nat} {e:TypeId} {s:Nat} {v:Value} {n:Nat} {xs:List Value} (h:w.ownsRow B' e s v n xs) (hB:B<=B'):w.ownsRow B e s v n xs:=by
 obtain⟨hl,h1 | ⟨g,c,cur,h1,h2,h3⟩⟩:=h
 ·exact⟨hl,.inl h1⟩
 ·exact⟨hl,.inr ⟨g,c,cur,h1,Nat.le_trans hB h2,h3⟩⟩
def PostSd (es:List (List Int)) (w:World) (e:Ending) (w':World):Prop:=Below w.heap.size w w'/\∃ a cap xs,e=.returned (.slice a xs.length cap)/\vW (· ∈ es) xs/\Rs xs/\Pa w' a cap xs
set_option maxHeartbeats 2000000 in
theorem rsorted_any (a:Option Addr) (cap:Nat) (es:List (List Int)) (hwf:∀ x ∈ es,IdW x) (hn:es.length<=1000) (w:World) (hP:Pa w a cap es) :
  Calls Tryz.prog 17 #[.slice a es.length cap] w (PostSd es w):=by
 obtain⟨n,HN⟩:=nm_ es.length
 obtain⟨G,HG⟩:=nm_ w.heap.size
 have hnn:n<=1000:=by rw[<-HN.out];exact hn
 have HPA:Hid (∀ W,Below G w W->Pa W a cap es):=fun W hW=>hP.below (by rw[HG.out];exact hW)
 have HPL:Hid (0<n->∃ b off,a=some ⟨b,off,none⟩):=fun h0=>by
  obtain⟨b,off,e1,e2,_⟩:=hP.at_ (by rw[HN.out];exact h0)
  exact⟨b,off,e1⟩
 have HWF:Hid (∀ x ∈ es,IdW x):=hwf
 have HE0:Hid (Bi 31 w w G (.slice none 0 0) []):=hid (XK 31 w G (by rw[HG.out];exact Nat.le_refl _))
 have HL0:Hid (vW (· ∈ es.take 0) []):=hid ⟨List.nodup_nil,fun y hy=>(by cases hy),fun y _=>by simp⟩
 rw[HN.out]
 clear hP hwf
 go_enter Tryz.func17,Tryz.ntmps17
 go_wp2_with fail
 go_loopg [3,4] n (fun g u iv wr=>∃ (i:Nat) (v:Value) (L:List (List Int)),v=u/\i<=n/\g=n-i/\iv=.int .i64 i/\Hid (Bi 31 w wr G v L)/\Hid (vW (· ∈ es.take i) L)/\Hid (Rs L))
 case atStart=>exact⟨0,_,[],rfl,Nat.zero_le _,rfl,rfl,HE0,HL0,hid List.Pairwise.nil⟩
 case round =>
  clear HE0 HL0
  obtain⟨i,v,L,hv,hi,hk,rfl,HBE,HLS,HRS⟩:=hrel
  subst hv
  obtain⟨m,HM⟩:=nm_ L.length
  have hmi:m<=i:=by
   have h1:=YV L (es.take i) HLS.out.one (fun y hy=>(HLS.out.all y (HLS.out.idw y hy)).1 hy)
   rw[HM.out,List.length_take] at h1
   omega
  obtain⟨va,vc,hv⟩:∃ va vc,v=.slice va m vc:=by
   have ho:=HBE.out.own
   rw[HM.out] at ho
   exact qw ho
  subst hv
  have HLW:Hid (∀ y ∈ L,(row .u8 y).length=20):=fun y hy=>by rw[zq];exact(HLS.out.idw y hy).1
  have HPV:Hid (∀ W,Bi 31 w W G (.slice va m vc) L->Pa W va vc L):=fun W hW=>by
   obtain⟨a',cap',e1,e2,_⟩:=hW.px (d:=[]) HLW.out
   rw[HM.out] at e1
   cases e1
   exact e2
  by_cases hlt:i<n
  ·have hlti:(i:Int)<(n:Int):=by omega
   obtain⟨b,off,hae⟩:=HPL.out (by omega)
   subst hae
   obtain⟨x,HXX⟩:=nm_ (es.getD i [])
   have HXW:Hid (IdW x):=hid (HWF.out x (by rw[<-HXX.out];exact yK es i _ (by rw[HN.out];exact hlt)))
   have HTK:Hid (es.take (i+1)=es.take i++[x]):=hid (by rw[xW [] es i (by rw[HN.out];exact hlt),HXX.out])
   obtain⟨R,HR⟩:=nm_ (row .u8 x)
   have HRR:Hid (∀ W,Below G w W->W.rangeAt b (off+i*20) R):=fun W hW=>by
    obtain⟨b',off',e1,e2,e3⟩:=(HPA.out W hW).at_ (by rw[HN.out];omega)
    cases e1
    rw[<-HR.out,<-HXX.out]
    exact e3 i (by rw[HN.out];exact hlt)
   have hi41:(Tryz.prog.info? 31).map (·.size)=some R.length:=by rw[<-HR.out,zq,HXW.out.1];exact Tryz.size31
   obtain⟨SX,HSXX⟩:=nm_ (⟨(Lib.bytesOf x).toArray⟩:ByteArray)
   have HX1:Hid (∀ z ∈ [x],(row .u8 z).length=20):=fun z hz=>by rw[List.mem_singleton.1 hz,zq];exact HXW.out.1
   go_wp2_with fail
   go_loopg [5] m (fun g jv wq=>∃ j:Nat,j<=m/\g=m-j/\jv=.int .i64 j/\Hid (Bi 31 w wq G (.slice va m vc) L)/\Hid (∀ k,k<j->Lib.bytesOf (L.getD k [])<Lib.bytesOf x))
   case atStart=>exact⟨0,Nat.zero_le _,rfl,rfl,HBE,hid (fun k hk=>absurd hk (Nat.not_lt_zero _))⟩
   case round =>
    clear HBE
    obtain⟨j,hj,hkj,rfl,HBQ,HLE⟩:=hrel
    have HBQ0:Hid (Bi 31 w wr.drew G (.slice va m vc) L):=hid (HBQ.out.carry (zJ (Below.refl _ _) 1))
    by_cases hji:j<m
    ·have hjii:(j:Int)<(m:Int):=by omega
     obtain⟨b1,off1,hva⟩:∃ b1 off1,va=some ⟨b1,off1,none⟩:=by
      obtain⟨b1,off1,e1,e2,_⟩:=(HPV.out _ HBQ.out).at_ (by rw[HM.out];omega)
      exact⟨b1,off1,e1⟩
     subst hva
     obtain⟨y,HY⟩:=nm_ (L.getD j [])
     have HYM:Hid (y ∈ L):=hid (by rw[<-HY.out];exact yK L j _ (by rw[HM.out];exact hji))
     have HYW:Hid (IdW y):=HLS.out.idw y HYM.out
     obtain⟨RY,HRY⟩:=nm_ (row .u8 y)
     have hiY:(Tryz.prog.info? 31).map (·.size)=some RY.length:=by rw[<-HRY.out,zq,HYW.out.1];exact Tryz.size31
     have HSY:Hid (∀ W,Bi 31 w W G (.slice (some ⟨b1,off1,none⟩) m vc) L->W.rangeAt b1 (off1+j*20) RY):=fun W hW=>by
      obtain⟨b',off',e1,e2,e3⟩:=(HPV.out _ hW).at_ (by rw[HM.out];omega)
      cases e1
      rw[<-HRY.out,<-HY.out]
      exact e3 j (by rw[HM.out];exact hji)
     obtain⟨SY,HSYY⟩:=nm_ (⟨(Lib.bytesOf y).toArray⟩:ByteArray)
     have HQ0:Hid (QC b1 (off1+j*20) b (off+i*20) SY SX wr.drew):=hid ⟨by
      rw[<-HSYY.out];exact conv_str HYW.out.1 (by rw[HRY.out];exact HSY.out _ HBQ0.out),by
      rw[<-HSXX.out];exact conv_str HXW.out.1 (by rw[HR.out];exact HRR.out _ HBQ0.out.below)⟩
     obtain⟨bb,HBB⟩:=nm_ (decide (Lib.bytesOf y<Lib.bytesOf x))
     have hcmp:Op.bytesLess SY.toList SX.toList=bb:=by
      rw[<-HSXX.out,<-HSYY.out,Lib.toList_data,Lib.toList_data,bl_lt,HBB.out]
     go_wp2_with fail
     refine wp_region_held_drew (S:=QC b1 (off1+j*20) b (off+i*20) SY SX) (by kernel_rfl) HQ0.out (fun hHeld=>?_)
     generalize wr.drew=u0 at hHeld HQ0 HBQ0 ⊢
     clear HQ0
     refine tZ (i:=0) hHeld ?_
     try simp only[Act.put,sL]
     refine tZ (i:=1) hHeld ?_
     try simp only[Act.put,sL]
     refine tZ (i:=2) hHeld ?_
     try simp only[Act.put,sL]
     refine tZ (i:=3) hHeld ?_
     try simp only[Act.put,sL]
     refine tZ (i:=4) hHeld ?_
     try simp only[Act.put,sL]
     refine tG (i:=5) hHeld ?_
     try simp only[Act.put,sL]
     refine tG (i:=6) hHeld ?_
     try simp only[Act.put,sL]
     refine tG (i:=7) hHeld ?_
     try simp only[Act.put,sL]
     refine tG (i:=8) hHeld ?_
     try simp only[Act.put,sL]
     refine tG (i:=9) (v:=.string SY) hHeld ?_
     try simp only[Act.put,sL]
     refine tG (i:=10) hHeld ?_
     try simp only[Act.put,sL]
     refine tG (i:=11) hHeld ?_
     try simp only[Act.put,sL]
     refine tG (i:=12) hHeld ?_
     try simp only[Act.put,sL]
     refine tG (i:=13) hHeld ?_
     try simp only[Act.put,sL]
     refine tG (i:=14) (v:=.string SX) hHeld ?_
     try simp only[Act.put,sL]
     refine tG (i:=15) (v:=.bool bb) hHeld ?_
     try simp only[Act.put,sL]
     refine tZ (i:=16) (v:=.bool bb) hHeld ?_
     try simp only[Act.put,sL]
     refine wpAnyH_done (by kernel_rfl) ?_ _
     clear hHeld hcmp HBQ
     cases bb with
     | true =>
      have HNL:Hid (Lib.bytesOf y<Lib.bytesOf x):=hid (of_decide_eq_true HBB.out)
      go_wp2
      go_roundg (m-(j+1))
      case measure=>omega
      case rel =>
       refine⟨j+1,by omega,rfl,by go_num,HBQ0,hid (fun k hk=>?_)⟩
       by_cases hkj2:k<j
       ·exact HLE.out k hkj2
       ·have:k=j:=by omega
        subst this
        rw[HY.out];exact HNL.out
     | false =>
      have HNL:Hid (¬ Lib.bytesOf y<Lib.bytesOf x):=hid (of_decide_eq_false HBB.out)
      have HBQ1:Hid (Bi 31 w u0.drew G (.slice (some ⟨b1,off1,none⟩) m vc) L):=hid (HBQ0.out.carry (zJ (Below.refl _ _) 1))
      have HQ1:Hid (QD b1 (off1+j*20) b (off+i*20) RY R u0.drew):=hid ⟨HSY.out _ HBQ1.out,HRR.out _ HBQ1.out.below⟩
      have HEQ:Hid (∀ V:World,(Op.equalIn 10000 31 (.agg RY.toArray) (.agg R.toArray)).run Tryz.prog V=.ok (decide (y=x)) V):=fun V=>by rw[<-HRY.out,<-HR.out];exact eq41 y x HYW.out.1 HXW.out.1 V
      go_wp2_with fail
      refine wp_region_held_drew (S:=QD b1 (off1+j*20) b (off+i*20) RY R) (by kernel_rfl) HQ1.out (fun hHeld=>?_)
      generalize u0.drew=u1 at hHeld HQ1 HBQ1 ⊢
      clear HQ1 HBQ0
      refine tZ (i:=0) hHeld ?_
      try simp only[Act.put,sL]
      refine tZ (i:=1) hHeld ?_
      try simp only[Act.put,sL]
      refine tZ (i:=2) hHeld ?_
      try simp only[Act.put,sL]
      refine tZ (i:=3) hHeld ?_
      try simp only[Act.put,sL]
      refine tZ (i:=4) hHeld ?_
      try simp only[Act.put,sL]
      refine tG (i:=5) hHeld ?_
      try simp only[Act.put,sL]
      refine tG (i:=6) hHeld ?_
      try simp only[Act.put,sL]
      refine tG (i:=7) hHeld ?_
      try simp only[Act.put,sL]
      refine tW (i:=8) (v:=.agg RY.toArray) hHeld rfl (yieldsIf_load_mid (by kernel_rfl) 31 _ rfl b1 (off1+j*20) (by rfl) RY _ (fun w' h=>h.r0) Tryz.underlying31 rfl hiY) ?_
      try simp only[Act.put,sL]
      refine tG (i:=9) hHeld ?_
      try simp only[Act.put,sL]
      refine tG (i:=10) hHeld ?_
      try simp only[Act.put,sL]
      refine tG (i:=11) hHeld ?_
      try simp only[Act.put,sL]
      refine tW (i:=12) (v:=.agg R.toArray) hHeld rfl (yieldsIf_load_mid (by kernel_rfl) 31 _ rfl b (off+i*20) (by rfl) R _ (fun w' h=>h.r1) Tryz.underlying31 rfl hi41) ?_
      try simp only[Act.put,sL]
      by_cases hyx:y=x
      ·have heq:∀ V:World,(Op.equalIn 10000 31 (.agg RY.toArray) (.agg R.toArray)).run Tryz.prog V=.ok true V:=fun V=>by rw[HEQ.out V,decide_eq_true hyx]
       have HLS2:Hid (vW (· ∈ es.take (i+1)) L):=hid (lst_has HLS.out HTK.out (by rw[<-hyx];exact HYM.out))
       refine Zz (i:=13) (v:=.bool true) rfl (by kernel_rfl) (by kernel_rfl) (by kernel_rfl) (fun _ _ _ h=>h) (Or.inl ⟨by kernel_rfl,?_⟩) hHeld ?_
       ·rintro w' _;go_simp;try rfl
       try simp only[Act.put,sL]
       refine tV (i:=14) (v:=.bool true) hHeld ?_
       try simp only[Act.put,sL]
       refine wpAnyH_done (by kernel_rfl) ?_ _
       clear hHeld heq
       go_wp2
       go_roundg (n-(i+1))
       case measure=>omega
       case rel=>exact⟨i+1,_,L,rfl,by omega,rfl,by go_num,HBQ1,HLS2,HRS⟩
      ·have heq:∀ V:World,(Op.equalIn 10000 31 (.agg RY.toArray) (.agg R.toArray)).run Tryz.prog V=.ok false V:=fun V=>by rw[HEQ.out V,decide_eq_false hyx]
       have HRN:Hid (Rs (L.take j++x :: L.drop j)):=hid (rs_ins HRS.out (by rw[HM.out];exact hj) HLE.out (.inr (by
        rw[HY.out]
        apply Classical.byContradiction
        intro h3
        exact hyx (Vu HYW.out HXW.out HNL.out h3))))
       refine Zz (i:=13) (v:=.bool false) rfl (by kernel_rfl) (by kernel_rfl) (by kernel_rfl) (fun _ _ _ h=>h) (Or.inl ⟨by kernel_rfl,?_⟩) hHeld ?_
       ·rintro w' _;go_simp;try rfl
       try simp only[Act.put,sL]
       refine tV (i:=14) (v:=.bool false) hHeld ?_
       try simp only[Act.put,sL]
       refine wpAnyH_done (by kernel_rfl) ?_ _
       clear hHeld heq
       obtain⟨va,HVA⟩:∃ va:Option Addr,va=some ⟨b1,off1,none⟩:=⟨_,rfl⟩
       rw[<-HVA] at HBQ1 HPV
       rw[<-HVA]
       clear HVA HSY
       generalize u1=WQ at HBQ1 ⊢
       obtain⟨B2,HB2⟩:=nm_ WQ.heap.size
       have hGB2:G<=B2:=by rw[<-HB2.out];exact HBQ1.out.le
       have HPQ:Hid (∀ W',Below B2 WQ W'->Pa W' va vc L):=fun W' hW'=>(HPV.out _ HBQ1.out).below (by rw[HB2.out];exact hW')
       have HPX:Hid (∀ W',Below B2 WQ W'->W'.rangeAt b (off+i*20) R):=fun W' hW'=>HRR.out W' (HBQ1.out.below.trans (hW'.mono hGB2))
       have HL1:Hid ((L.take j).length=j):=hid (by rw[List.length_take,HM.out];omega)
       have HL2:Hid ((L.drop j).length=m-j):=hid (by rw[List.length_drop,HM.out])
       have HW1:Hid (∀ y ∈ L.take j,(row .u8 y).length=20):=fun y hy=>HLW.out y (List.mem_of_mem_take hy)
       have HW2:Hid (∀ y ∈ L.drop j,(row .u8 y).length=20):=fun y hy=>HLW.out y (List.mem_of_mem_drop hy)
       have hcapm:m<=vc:=by have:=(HPV.out _ HBQ1.out).capl;rw[HM.out] at this;omega
       have hcapj:j<=vc:=by omega
       have hsl1:∀ W',(Instr.slice 38 (.slice va m vc) none (some (.int .i64 j)) none).run Tryz.prog W'=.ok (.slice va j vc) W':=fun W'=>slP_to va m vc j hcapj W'
       have hsl2:∀ W',(Instr.slice 38 (.slice va m vc) (some (.int .i64 j)) none none).run Tryz.prog W'=.ok (.slice (adr va vc j) (m-j) (vc-j)) W':=fun W'=>slP_from va m vc j hj W'
       obtain⟨a3,HA3⟩:=nm_ (adr va vc j)
       have HP3:Hid (∀ W',Below B2 WQ W'->Pa W' a3 (vc-j) (L.drop j)):=fun W' hW'=>by rw[<-HA3.out];exact(HPQ.out W' hW').drop j (by rw[HM.out];exact hj)
       simp only[HA3.out] at hsl2
       have HB0:Hid (Bi 31 WQ WQ B2 (.slice none 0 0) []):=hid (XK 31 WQ B2 (by rw[HB2.out];exact Nat.le_refl _))
       have HLS3:Hid (vW (· ∈ es.take (i+1)) (L.take j++x :: L.drop j)):=hid (lst_ins HXW.out HLS.out HTK.out HRN.out)
       go_wp2_with (first
        | (refine yZ (d:=[]) rfl _ _ 38 31 Tryz.underlying38 Tryz.info31 rfl (by decide) (by decide) (fun z=>zV _ z) rfl B2 (.slice none 0 0) _ rfl HB0.out va vc (L.take j) (by rw[HL1.out];rfl) ((HPQ.out _ (Below.refl _ _)).take j) HW1.out (by rw[HL1.out];simp;omega) ?_;intro v1 w1 hb1 hg1;have HBE1:Hid (Bi 31 WQ w1 B2 v1 ([]++L.take j)):=hb1;clear hb1 hg1;have RX:Hid (w1.rangeAt b (off+i*20) R):=hid (HPX.out _ HBE1.out.below))
        | refine wpList_load_mid rfl 31 _ rfl b (off+i*20) rfl R _ RX.out Tryz.underlying31 rfl hi41 ?_
        | refine vz rfl 38 1 _ rfl (.agg R.toArray) _ rfl (by rw[<-HR.out];exact kQ x HXW.out.1 _) ?_
        | (refine yZ (d:=[]) rfl _ _ 38 31 Tryz.underlying38 Tryz.info31 rfl (by decide) (by decide) (fun z=>zV _ z) rfl B2 v1 _ rfl (HBE1.out.alloc _) (some ⟨w1.heap.size,0,none⟩) 1 [x] rfl (k6 w1 x 31) HX1.out (by simp only[List.nil_append,HL1.out,List.length_cons,List.length_nil];omega) ?_;intro v2 w2 hb2 hg2;have HBE2:Hid (Bi 31 WQ w2 B2 v2 (([]++L.take j)++[x])):=hb2;clear hb2 hg2)
        | (refine yZ (d:=[]) rfl _ _ 38 31 Tryz.underlying38 Tryz.info31 rfl (by decide) (by decide) (fun z=>zV _ z) rfl B2 v2 _ rfl HBE2.out a3 (vc-j) (L.drop j) (by rw[HL2.out];rfl) (HP3.out _ HBE2.out.below) HW2.out (by simp only[List.nil_append,List.length_append,HL1.out,HL2.out,List.length_cons,List.length_nil];omega) ?_;intro v3 w3 hb3 hg3;have HBE3:Hid (Bi 31 WQ w3 B2 v3 ((([]++L.take j)++[x])++L.drop j)):=hb3;clear hb3 hg3)
        | fail)
       go_roundg (n-(i+1))
       case measure=>omega
       case rel =>
        refine⟨i+1,v3,L.take j++x :: L.drop j,rfl,by omega,rfl,by go_num,hid ?_,HLS3,HRN⟩
        have h3:=HBE3.out
        rw[List.nil_append,List.append_assoc,List.singleton_append] at h3
        exact⟨HBQ1.out.below.trans (h3.below.mono hGB2),Zu h3.own hGB2,Nat.le_trans HBQ1.out.le (by rw[HB2.out];exact h3.le)⟩
    ·have hjii:¬ (j:Int)<(m:Int):=by omega
     have HRN:Hid (Rs (L.take j++x :: L.drop j)):=hid (rs_ins HRS.out (by rw[HM.out];exact hj) HLE.out (.inl (by rw[HM.out];omega)))
     go_wp2_with fail
     refine wp_region_held_drew (S:=fun _=>True) (by kernel_rfl) trivial (fun hHeld=>?_)
     generalize wr.drew=u0 at hHeld HBQ0 ⊢
     refine tV (i:=0) hHeld ?_
     try simp only[Act.put,sL]
     refine tV (i:=1) hHeld ?_
     try simp only[Act.put,sL]
     refine tV (i:=2) hHeld ?_
     try simp only[Act.put,sL]
     refine tV (i:=3) (v:=.bool false) hHeld ?_
     try simp only[Act.put,sL]
     refine tV (i:=4) (v:=.bool false) hHeld ?_
     try simp only[Act.put,sL]
     refine tN (i:=5) hHeld ?_
     try simp only[Act.put,sL]
     refine tN (i:=6) hHeld ?_
     try simp only[Act.put,sL]
     refine tN (i:=7) hHeld ?_
     try simp only[Act.put,sL]
     refine tN (i:=8) hHeld ?_
     try simp only[Act.put,sL]
     refine tN (i:=9) hHeld ?_
     try simp only[Act.put,sL]
     refine tN (i:=10) hHeld ?_
     try simp only[Act.put,sL]
     refine tN (i:=11) hHeld ?_
     try simp only[Act.put,sL]
     refine tN (i:=12) hHeld ?_
     try simp only[Act.put,sL]
     refine tN (i:=13) hHeld ?_
     try simp only[Act.put,sL]
     refine tN (i:=14) hHeld ?_
     try simp only[Act.put,sL]
     refine tN (i:=15) hHeld ?_
     try simp only[Act.put,sL]
     refine tV (i:=16) (v:=.bool false) hHeld ?_
     try simp only[Act.put,sL]
     refine wpAnyH_done (by kernel_rfl) ?_ _
     clear hHeld HBQ
     have HBQ1:Hid (Bi 31 w u0.drew G (.slice va m vc) L):=hid (HBQ0.out.carry (zJ (Below.refl _ _) 1))
     go_wp2_with fail
     refine wp_region_held_drew (S:=fun _=>True) (by kernel_rfl) trivial (fun hHeld=>?_)
     generalize u0.drew=WQ at hHeld HBQ1 ⊢
     clear HBQ0
     refine tV (i:=0) hHeld ?_
     try simp only[Act.put,sL]
     refine tV (i:=1) hHeld ?_
     try simp only[Act.put,sL]
     refine tV (i:=2) hHeld ?_
     try simp only[Act.put,sL]
     refine tV (i:=3) (v:=.bool false) hHeld ?_
     try simp only[Act.put,sL]
     refine tV (i:=4) (v:=.bool false) hHeld ?_
     try simp only[Act.put,sL]
     refine tN (i:=5) hHeld ?_
     try simp only[Act.put,sL]
     refine tN (i:=6) hHeld ?_
     try simp only[Act.put,sL]
     refine tN (i:=7) hHeld ?_
     try simp only[Act.put,sL]
     refine tN (i:=8) hHeld ?_
     try simp only[Act.put,sL]
     refine tN (i:=9) hHeld ?_
     try simp only[Act.put,sL]
     refine tN (i:=10) hHeld ?_
     try simp only[Act.put,sL]
     refine tN (i:=11) hHeld ?_
     try simp only[Act.put,sL]
     refine tN (i:=12) hHeld ?_
     try simp only[Act.put,sL]
     refine tN (i:=13) hHeld ?_
     try simp only[Act.put,sL]
     refine tV (i:=14) (v:=.bool false) hHeld ?_
     try simp only[Act.put,sL]
     refine wpAnyH_done (by kernel_rfl) ?_ _
     clear hHeld
     obtain⟨B2,HB2⟩:=nm_ WQ.heap.size
     have hGB2:G<=B2:=by rw[<-HB2.out];exact HBQ1.out.le
     have HPQ:Hid (∀ W',Below B2 WQ W'->Pa W' va vc L):=fun W' hW'=>(HPV.out _ HBQ1.out).below (by rw[HB2.out];exact hW')
     have HPX:Hid (∀ W',Below B2 WQ W'->W'.rangeAt b (off+i*20) R):=fun W' hW'=>HRR.out W' (HBQ1.out.below.trans (hW'.mono hGB2))
     have HL1:Hid ((L.take j).length=j):=hid (by rw[List.length_take,HM.out];omega)
     have HL2:Hid ((L.drop j).length=m-j):=hid (by rw[List.length_drop,HM.out])
     have HW1:Hid (∀ y ∈ L.take j,(row .u8 y).length=20):=fun y hy=>HLW.out y (List.mem_of_mem_take hy)
     have HW2:Hid (∀ y ∈ L.drop j,(row .u8 y).length=20):=fun y hy=>HLW.out y (List.mem_of_mem_drop hy)
     have hcapm:m<=vc:=by have:=(HPV.out _ HBQ1.out).capl;rw[HM.out] at this;omega
     have hcapj:j<=vc:=by omega
     have hsl1:∀ W',(Instr.slice 38 (.slice va m vc) none (some (.int .i64 j)) none).run Tryz.prog W'=.ok (.slice va j vc) W':=fun W'=>slP_to va m vc j hcapj W'
     have hsl2:∀ W',(Instr.slice 38 (.slice va m vc) (some (.int .i64 j)) none none).run Tryz.prog W'=.ok (.slice (adr va vc j) (m-j) (vc-j)) W':=fun W'=>slP_from va m vc j hj W'
     obtain⟨a3,HA3⟩:=nm_ (adr va vc j)
     have HP3:Hid (∀ W',Below B2 WQ W'->Pa W' a3 (vc-j) (L.drop j)):=fun W' hW'=>by rw[<-HA3.out];exact(HPQ.out W' hW').drop j (by rw[HM.out];exact hj)
     simp only[HA3.out] at hsl2
     have HB0:Hid (Bi 31 WQ WQ B2 (.slice none 0 0) []):=hid (XK 31 WQ B2 (by rw[HB2.out];exact Nat.le_refl _))
     have HLS3:Hid (vW (· ∈ es.take (i+1)) (L.take j++x :: L.drop j)):=hid (lst_ins HXW.out HLS.out HTK.out HRN.out)
     go_wp2_with (first
      | (refine yZ (d:=[]) rfl _ _ 38 31 Tryz.underlying38 Tryz.info31 rfl (by decide) (by decide) (fun z=>zV _ z) rfl B2 (.slice none 0 0) _ rfl HB0.out va vc (L.take j) (by rw[HL1.out];rfl) ((HPQ.out _ (Below.refl _ _)).take j) HW1.out (by rw[HL1.out];simp;omega) ?_;intro v1 w1 hb1 hg1;have HBE1:Hid (Bi 31 WQ w1 B2 v1 ([]++L.take j)):=hb1;clear hb1 hg1;have RX:Hid (w1.rangeAt b (off+i*20) R):=hid (HPX.out _ HBE1.out.below))
      | refine wpList_load_mid rfl 31 _ rfl b (off+i*20) rfl R _ RX.out Tryz.underlying31 rfl hi41 ?_
      | refine vz rfl 38 1 _ rfl (.agg R.toArray) _ rfl (by rw[<-HR.out];exact kQ x HXW.out.1 _) ?_
      | (refine yZ (d:=[]) rfl _ _ 38 31 Tryz.underlying38 Tryz.info31 rfl (by decide) (by decide) (fun z=>zV _ z) rfl B2 v1 _ rfl (HBE1.out.alloc _) (some ⟨w1.heap.size,0,none⟩) 1 [x] rfl (k6 w1 x 31) HX1.out (by simp only[List.nil_append,HL1.out,List.length_cons,List.length_nil];omega) ?_;intro v2 w2 hb2 hg2;have HBE2:Hid (Bi 31 WQ w2 B2 v2 (([]++L.take j)++[x])):=hb2;clear hb2 hg2)
      | (refine yZ (d:=[]) rfl _ _ 38 31 Tryz.underlying38 Tryz.info31 rfl (by decide) (by decide) (fun z=>zV _ z) rfl B2 v2 _ rfl HBE2.out a3 (vc-j) (L.drop j) (by rw[HL2.out];rfl) (HP3.out _ HBE2.out.below) HW2.out (by simp only[List.nil_append,List.length_append,HL1.out,HL2.out,List.length_cons,List.length_nil];omega) ?_;intro v3 w3 hb3 hg3;have HBE3:Hid (Bi 31 WQ w3 B2 v3 ((([]++L.take j)++[x])++L.drop j)):=hb3;clear hb3 hg3)
      | fail)
     go_roundg (n-(i+1))
     case measure=>omega
     case rel =>
      refine⟨i+1,v3,L.take j++x :: L.drop j,rfl,by omega,rfl,by go_num,hid ?_,HLS3,HRN⟩
      have h3:=HBE3.out
      rw[List.nil_append,List.append_assoc,List.singleton_append] at h3
      exact⟨HBQ1.out.below.trans (h3.below.mono hGB2),Zu h3.own hGB2,Nat.le_trans HBQ1.out.le (by rw[HB2.out];exact h3.le)⟩
  ·have hlti:¬ (i:Int)<(n:Int):=by omega
   have HLZ:Hid (vW (· ∈ es) L):=hid (by
    have:=HLS.out
    rw[List.take_of_length_le (by rw[HN.out];omega)] at this
    exact this)
   have HPZ:Hid (Pa wr va vc L):=hid (HPV.out _ HBE.out)
   go_wp2
   go_ret
   exact⟨by rw[HG.out];exact HBE.out.below,va,vc,L,by rw[HM.out];rfl,HLZ.out,HRS.out,HPZ.out⟩
end Go.Proofs.YticgindfipobiaaGreatDoor.Gr
