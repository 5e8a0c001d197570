import Derived.Test.YtgliaiemkfopeaaGreatDoorMn13
set_option linter.unusedSimpArgs false
set_option linter.unusedVariables false
set_option maxRecDepth 20000
set_option maxHeartbeats 4000000
namespace Go.Proofs.YtgliaiemkfopeaaGreatDoor.K
open Go.RowKit
abbrev Kp:=List Int × Str
def tgK (k:Kp):Option Str:=if k.2=[] then none else some k.2
def kT (T:Ts):Str->Option Kp:=fun x=>(T x).map fun r=>(r.id,r.tg)
abbrev wyT (T:Ts) (n:Nat) (x:Str):Option (List Str):=Rk.wy tgK (kT T) n x
theorem field125 (r:Lr) (h:r.id.length=20) (w:World):(Instr.field 125 (rV r) 0).run Tryz.prog w=.ok (.agg (row .u8 r.id).toArray) w/\(Instr.field 125 (rV r) 1).run Tryz.prog w=.ok (sV r.tg) w/\(Instr.field 125 (rV r) 2).run Tryz.prog w=.ok (.slice r.a r.log.length r.c) w:=by
 obtain⟨id,tg,a,c,log⟩:=r
 obtain⟨a0,a1,a2,a3,a4,a5,a6,a7,a8,a9,a10,a11,a12,a13,a14,a15,a16,a17,a18,a19,rfl⟩:=yZ id h
 unfold rV
 simp only
 generalize log.length=n
 generalize sV tg=v
 refine⟨?_,?_,?_⟩ <;> kernel_rfl
theorem Tryz.results45:Tryz.f45.results=#[.tmp 2]:=by kernel_rfl
theorem Tryz.results80:Tryz.f80.results=#[.tmp 4,.tmp 5]:=by kernel_rfl
theorem last_any (a:Option Addr) (c:Nat) (l:List Str) (w:World) (h:Px eT 1 [] w a c l) (h0:0<l.length) (hl:l.length<=1000000) :
  Calls Tryz.prog 45 #[.slice a l.length c] w fun e w'=>e=.returned (sV (l.getD (l.length-1) []))/\w'=w:=by
 obtain⟨b,off,e1,_,e3⟩:=h.at_ h0
 subst e1
 have hc:=e3 (l.length-1) (by omega) 0 _ rfl
 obtain⟨x,hx⟩:∃ x,l.getD (l.length-1) []=x:=⟨_,rfl⟩
 rw[hx] at hc ⊢
 obtain⟨n,hn⟩:∃ n,l.length=n+1:=⟨l.length-1,by omega⟩
 rw[hn] at hc hl ⊢
 simp only[Nat.add_sub_cancel,Nat.mul_one,Nat.add_zero] at hc
 unfold sV at hc ⊢
 go_enter Tryz.func45,Tryz.ntmps45
 go_wp2_with fail
 exact bodyPost_ret (results_tmp Tryz.results45 _ _ _) rfl ⟨rfl,rfl⟩
def Q7 (T:Ts) (x:Str):Str:=((T x).map (·.tg)).getD []
theorem kT_tg (T:Ts) (x:Str):(kT T x).bind tgK=if Q7 T x=[] then none else some (Q7 T x):=by
 unfold kT Q7 tgK
 cases T x <;> simp
theorem wy_stop {T:Ts} {n:Nat} {x:Str} (h:Q7 T x=[]):wyT T n x=some [x]:=by
 unfold wyT Rk.wy
 rw[kT_tg,if_pos h]
theorem wy_loop {T:Ts} {x:Str} (h:Q7 T x ≠ []):wyT T 0 x=none:=by
 unfold wyT Rk.wy
 rw[kT_tg,if_neg h]
theorem wy_go {T:Ts} {n:Nat} {x:Str} (h:Q7 T x ≠ []):wyT T (n+1) x=(wyT T n (Q7 T x)).map (x :: ·):=by
 conv=>lhs;unfold wyT Rk.wy
 rw[kT_tg,if_neg h]
theorem look_at {S:Nat->Prop} {w:World} {t n:Nat} {T:Ts} (h:Tt S w t n T) {x:Str} (hx:x.length<=4000):∃ A,(∀ W:World,(Instr.field 125 (.agg A) 1).run Tryz.prog W=.ok (sV (Q7 T x)) W)/\(∀ W,Below w.heap.size w W->(Instr.lookup 105 (.map (some t)) (sV x) false).run Tryz.prog W=.ok (.agg A) W)/\(Q7 T x).length<=60/\(vT T x).getD (rV r0)=.agg A:=by
 have hl:=fun W (hW:Below w.heap.size w W)=>(h.below hW).tm.look1 xu (j0 W) hx
 cases hT:T x with
 | none =>
  refine⟨_,fun W=>?_,fun W hW=>(hl W hW).trans ?_,by simp[Q7,hT],by simp only[vT,hT,Option.map_none,Option.getD_none];rfl⟩
  ·have:=(field125 r0 rfl W).2.1;unfold Q7;rw[hT];exact this
  ·simp only[vT,hT,Option.map_none,Option.getD_none];rfl
 | some r =>
  have hr:=h.at_ x r hT
  refine⟨_,fun W=>?_,fun W hW=>(hl W hW).trans ?_,by simp only[Q7,hT,Option.map_some,Option.getD_some];exact hr.tg,by simp only[vT,hT,Option.map_some,Option.getD_some];rfl⟩
  ·have:=(field125 r hr.id.1 W).2.1;unfold Q7;rw[hT];exact this
  ·simp only[vT,hT,Option.map_some,Option.getD_some];rfl
def Yx (T:Ts) (x:Str) (B:Nat) (e:Ending) (w':World):Prop:=match wyT T 8 x with
 | some l=>∃ v,e=.returned (.tuple #[v,.nilIface])/\w'.ownsRow B 9 1 v l.length (l.map sV)
 | none=>e=.returned (.tuple #[.slice none 0 0,eI 64])
set_option maxHeartbeats 2000000 in
theorem way_any (S:Nat->Prop) (t n:Nat) (T:Ts) (x:Str) (w:World) (h:Tt S w t n T) (hx:x.length<=60) :
  Calls Tryz.prog 80 #[.map (some t),sV x] w fun e w'=>Yx T x w.heap.size e w'/\Below w.heap.size w w':=by
 have H:=hid h
 obtain⟨r,HR⟩:=nm_ w.heap.size
 have HB0:Hid (Bx eT 1 9 w (w.alloc (.cells #[.string ⟨x.toArray⟩] 9)) r (.slice (some ⟨r,0,none⟩) 1 1) ([]++[x])):=hid ⟨(Below.refl _ w).alloc (by rw[HR.out];exact Nat.le_refl _) _,⟨rfl,.inr ⟨r,1,#[.string ⟨x.toArray⟩],rfl,Nat.le_refl _,by rw[<-HR.out];exact heap_alloc_new _ _,by simp,by unfold maxLen;omega,by simp,rfl⟩⟩,by rw[<-HR.out];simp⟩
 clear h
 rw[HR.out]
 unfold sV
 go_enter Tryz.func80,Tryz.ntmps80
 go_wp2_with fail
 rw[HR.out]
 go_loopg [1,6] 9 (fun q nv sv wr=>∃ (l:List Str) (cur:Str) (v:Value),nv=.string ⟨cur.toArray⟩/\v=sv/\q=9-l.length/\l.length<=8/\cur.length<=60/\Hid (wyT T 8 x=(wyT T (8-l.length) cur).map (l ++ ·))/\Hid (Bx eT 1 9 w wr r v (l++[cur])))
 case atStart=>exact⟨[],x,_,rfl,rfl,rfl,by simp,hx,hid (by simp),HB0⟩
 case round =>
  obtain⟨l,cur,v,rfl,hv,hq,hl8,hcl,HW,HB⟩:=hrel
  subst hv
  obtain⟨A,hfd,hlk,htl,_⟩:=look_at (H.out) (x:=cur) (by omega)
  have hlk1:=hlk wr (by rw[HR.out];exact HB.out.below)
  obtain⟨tg,htg⟩:∃ s,Q7 T cur=s:=⟨_,rfl⟩
  rw[htg] at hfd htl
  have HTG:=hid htg
  clear htg hlk
  by_cases h0:tg=[]
  ·subst h0
   have HF:Hid (wyT T 8 x=some (l++[cur])):=hid (by rw[HW.out,wy_stop HTG.out];rfl)
   unfold sV at hfd hlk1
   go_wp2_with fail
   refine bodyPost_ret (results_tmp2 Tryz.results80 _ _ _) rfl ⟨?_,HB.out.below⟩
   unfold Yx
   rw[HF.out]
   refine⟨_,rfl,?_⟩
   have:=HB.out.own
   rw[jz] at this
   exact this
  ·have hne:(tg == [])=false:=by simpa using h0
   by_cases h8:l.length=8
   ·have HF:Hid (wyT T 8 x=none):=hid (by rw[HW.out,h8,wy_loop (by rw[HTG.out];exact h0)];rfl)
    obtain⟨va,vc,hvs⟩:=zZ HB.out.own
    rw[List.length_append,List.length_singleton,h8] at hvs
    subst hvs
    have HBL:=hid HB.out.below
    unfold sV at hfd hlk1
    clear HB
    go_wp2_with fail
    refine bodyPost_ret (results_tmp2 Tryz.results80 _ _ _) rfl ⟨?_,HBL.out⟩
    unfold Yx
    rw[HF.out]
    rfl
   ·obtain⟨va,vc,hvs⟩:=zZ HB.out.own
    rw[List.length_append,List.length_singleton] at hvs
    obtain⟨ln,hln⟩:∃ n,l.length=n:=⟨_,rfl⟩
    rw[hln] at h8 hl8 hq hvs
    subst hvs
    have HLN:=hid hln
    have hln8:ln<8:=by omega
    have hnt:¬ ((ln:Int)+1 > 8):=by omega
    have HF:Hid (wyT T 8 x=(wyT T (8-(l++[cur]).length) tg).map (l++[cur] ++ ·)):=hid (by
     rw[HW.out,HLN.out,List.length_append,List.length_singleton,HLN.out,show 8-ln=(8-(ln+1))+1 by omega,wy_go (by rw[HTG.out];exact h0),HTG.out]
     cases wyT T (8-(ln+1)) tg <;> simp)
    have HB2:Hid (Bx eT 1 9 w (wr.alloc (.cells #[.string ⟨tg.toArray⟩] 9)) r (.slice va (ln+1) vc) (l++[cur])):=hid (HB.out.alloc _)
    have HLB:Hid ((l++[cur]).length + [tg].length<=1000000000):=hid (by simp;omega)
    unfold sV at hfd hlk1
    clear hln HB
    go_wp2_with (at_builtin;refine zj (enc:=eT) (k:=1) (d:=[]) rfl _ _ 64 9 und64 info9 rfl (by decide) (by decide) (fun x v hv=>by simp only[eT,List.mem_singleton] at hv;subst hv;rfl) rfl r _ (l++[cur]) rfl HB2.out (some ⟨wr.heap.size,0,none⟩) 1 [tg] rfl (yu (enc:=eT) wr tg 9) (fun x _=>rfl) HLB.out ?_;intro v3 w3 hb3 hg3 hm3;have HB3:=hid hb3;clear hb3 hg3 hm3)
    go_roundg (9-(ln+1))
    case measure=>omega
    case rel=>exact⟨l++[cur],tg,_,rfl,rfl,by rw[List.length_append,List.length_singleton,HLN.out],by rw[List.length_append,List.length_singleton,HLN.out];omega,htl,HF,HB3⟩
def rdT (T:Ts) (x:Str):Except Int (List Int):=match wyT T 8 x with
 | none=>.error 64
 | some l=>match T (l.getD (l.length-1) []) with
  | none=>.error 61
  | some r=>.ok r.id
def PostR (o:Except Int (List Int)) (e:Ending):Prop:=match o with
 | .ok id=>e=.returned (.tuple #[.agg (row .u8 id).toArray,.nilIface])
 | .error k=>e=.returned (.tuple #[.agg (row .u8 zQ).toArray,eI k])
theorem Tryz.results64:Tryz.f64.results=#[.cell 4 89,.tmp 5]:=by kernel_rfl
theorem Tryz.results31:Tryz.f31.results=#[.cell 4 89,.tmp 5]:=by kernel_rfl
structure Ri (x:List Int) (R:Array Value):Prop where
 e:(row .u8 x).toArray=R
 i:(Tryz.prog.info? 89).map (·.size)=some R.size
 z:(row .u8 zQ).toArray.size=R.size
 o:R.all (·.oneCell')=true
theorem ri (x:List Int) (h:x.length=20):∃ R,Hid (Ri x R):=by
 have hs:(row .u8 x).toArray.size=20:=by simp[zw,h]
 exact⟨_,hid ⟨rfl,by rw[hs];kernel_rfl,by rw[hs];rfl,all_oneCell_toArray (yQ _ _)⟩⟩
theorem build89 (w:World):(Instr.build 89 #[]).run Tryz.prog w=.ok (.agg (row .u8 zQ).toArray) w:=by kernel_rfl
theorem uu (l:List Str) (h:0<l.length):l.getD (l.length-1) [] ∈ l:=zK l _ [] (by omega)
theorem Qz {T:Ts} (hT:∀ x r,T x=some r->r.tg.length<=60):∀ (n:Nat) (x:Str) (l:List Str),x.length<=60->wyT T n x=some l->0<l.length/\l.length<=n+1/\∀ y ∈ l,y.length<=60
 | n,x,l,hx,h=>by
  by_cases h0:Q7 T x=[]
  ·rw[wy_stop h0] at h
   cases h
   simp[hx]
  ·cases n with
   | zero=>rw[wy_loop h0] at h;cases h
   | succ n =>
    rw[wy_go h0] at h
    obtain⟨l',hl,rfl⟩:=Option.map_eq_some_iff.1 h
    have hc:(Q7 T x).length<=60:=by
     unfold Q7
     cases e:T x with
     | none=>simp
     | some r=>exact hT x r e
    obtain⟨k1,k2,k3⟩:=Qz hT n _ l' hc hl
    refine⟨by simp,by simp;omega,fun y hy=>?_⟩
    rcases List.mem_cons.1 hy with rfl | hy
    ·exact hx
    ·exact k3 y hy
set_option maxHeartbeats 2000000 in
theorem read1_any (S:Nat->Prop) (t n:Nat) (T:Ts) (x:Str) (w:World) (h:Tt S w t n T) (hx:x.length<=60) :
  Calls Tryz.prog 64 #[.map (some t),sV x] w fun e w'=>PostR (rdT T x) e/\Below w.heap.size w w':=by
 obtain⟨Z,HZ⟩:=ri zQ rfl
 have HZ0:Hid (Z=#[.int .u8 0,.int .u8 0,.int .u8 0,.int .u8 0,.int .u8 0,.int .u8 0,.int .u8 0,.int .u8 0,.int .u8 0,.int .u8 0,.int .u8 0,.int .u8 0,.int .u8 0,.int .u8 0,.int .u8 0,.int .u8 0,.int .u8 0,.int .u8 0,.int .u8 0,.int .u8 0]):=hid HZ.out.e.symm
 have HB0:Hid (Below w.heap.size w (w.alloc (.cells Z 89))):=hid ((Below.refl _ w).alloc (Nat.le_refl _) _)
 have hway:=way_any S t n T x (w.alloc (.cells Z 89)) (h.below HB0.out) hx
 have HK:Hid (∀ w1,Below (w.alloc (.cells Z 89)).heap.size (w.alloc (.cells Z 89)) w1->Below w.heap.size w w1/\w1.heap[w.heap.size]? = some (.cells Z 89)):=fun w1 h1=>⟨HB0.out.trans (h1.mono (by simp)),(h1.block _ (by simp)).trans (heap_alloc_new _ _)⟩
 have HE:Hid (∀ (w1 w2:World) (A:Array Value),Below w.heap.size w w1->Below w1.heap.size w1 w2->w1.heap[w.heap.size]? = some (.cells Z 89)->w2.heap[w.heap.size]? = some (.cells Z 89)/\(w2.setRow w.heap.size A).heap[w.heap.size]? = some (.cells A 89)/\Below w.heap.size w (w2.setRow w.heap.size A)):=fun w1 w2 A b1 b2 h1=>by
  have h2:=(b2.block _ (z7 h1)).trans h1
  exact⟨h2,setRow_heap _ _ _ _ _ _ h2,below_setRow (b1.trans (b2.mono b1.size)) (Nat.le_refl _) _⟩
 have HBD:Hid (∀ W:World,(Instr.build 89 #[]).run Tryz.prog W=.ok (.agg Z) W):=fun W=>by rw[build89,HZ.out.e]
 have H:=hid h
 have hsh:=Qz (T:=T) (fun x r hr=>(H.out.at_ x r hr).tg) 8 x
 cases hW:wyT T 8 x with
 | none =>
  have HR:Hid (rdT T x=.error 64):=hid (by unfold rdT;rw[hW])
  have hw2:∀ e w',Yx T x (w.alloc (.cells Z 89)).heap.size e w'->e=.returned (.tuple #[.slice none 0 0,eI 64]):=fun e w' hp=>by unfold Yx at hp;rw[hW] at hp;exact hp
  rw[HR.out]
  have HP:=hid hw2
  rw[HZ0.out] at hway HK
  unfold sV at hway ⊢
  clear hw2 h hsh hW
  go_enter Tryz.func64,Tryz.ntmps64
  go_wp2_with (first
   | (go_at_call 80;refine hway.mono ?_;rintro e w1 ⟨hp,hb1⟩;have he:=HP.out e w1 (by rw[HZ0.out];exact hp);subst he;obtain⟨q1,q2⟩:=HK.out w1 hb1;rw[<-HZ0.out] at q2;obtain⟨q3,q4,q5⟩:=HE.out w1 w1 Z q1 (Below.refl _ _) q2;have Q3:=hid q3;have Q4:=hid q4;have Q5:=hid q5;clear hp hb1 q1 q2 q3 q4 q5)
   | (refine z8 rfl (.agg Z) (yk 89 rfl (HBD.out _)) ?_)
   | (refine wpList_store_row rfl 89 (.tmp 4) (.tmp 18) rfl w.heap.size Z rfl rfl 89 _ Q3.out HZ.out.i rfl HZ.out.o ?_))
  refine bodyPost_ret (qw Tryz.results64 _ _ w.heap.size Z.toList _ _ rfl rfl (zy (by simpa using Q4.out)) Tryz.underlying89 rfl (by simpa using HZ.out.i)) rfl ⟨?_,Q5.out⟩
  unfold PostR
  simp only[HZ.out.e,Array.toArray_toList]
  rfl
 | some l =>
  obtain⟨hl0,hl9,hl60⟩:=hsh l hx hW
  obtain⟨y,hy⟩:∃ y,l.getD (l.length-1) []=y:=⟨_,rfl⟩
  have hyl:y.length<=60:=by rw[<-hy];exact hl60 _ (uu l hl0)
  have HP:Hid (∀ e w1,Yx T x (w.alloc (.cells Z 89)).heap.size e w1->∃ va vc,e=.returned (.tuple #[.slice va l.length vc,.nilIface])/\Calls Tryz.prog 45 #[.slice va l.length vc] w1 fun e w'=>e=.returned (sV y)/\w'=w1):=fun e w1 hp=>by
   unfold Yx at hp
   rw[hW] at hp
   obtain⟨v,rfl,hv⟩:=hp
   obtain⟨va,vc,rfl⟩:=zZ hv
   have hB:Bx eT 1 9 w1 w1 0 (.slice va l.length vc) l:=⟨Below.refl _ _,by rw[jz];exact kz hv,Nat.zero_le _⟩
   obtain⟨a',c',e,hP,_⟩:=hB.px (d:=[]) (fun _ _=>rfl)
   cases e
   have:=last_any va vc l w1 hP hl0 (by omega)
   rw[hy] at this
   exact⟨va,vc,rfl,this⟩
  have hlk:=fun W (hW:Below w.heap.size w W)=>(H.out.below hW).tm.look xu (j0 W) (x:=y) (by omega)
  obtain⟨ll,hll⟩:∃ n,l.length=n:=⟨_,rfl⟩
  cases hT:T y with
  | none =>
   have HR:Hid (rdT T x=.error 61):=hid (by unfold rdT;rw[hW];simp only[hy,hT])
   obtain⟨A0,HA0⟩:=ra r0 rfl
   simp only[vT,hT,Option.map_none,Option.getD_none,Option.isSome_none,HA0.out.e] at hlk
   rw[HR.out]
   rw[hll] at HP
   rw[HZ0.out] at hway HK
   unfold sV at hway hlk HP ⊢
   clear h hsh hW hl60 hl9 hl0 hll
   go_enter Tryz.func64,Tryz.ntmps64
   go_wp2_with (first
    | (go_at_call 80;refine hway.mono ?_;rintro e w1 ⟨hp,hb1⟩;obtain⟨va,vc,he,hlast⟩:=HP.out e w1 (by rw[HZ0.out];exact hp);subst he;obtain⟨q1,q2⟩:=HK.out w1 hb1;rw[<-HZ0.out] at q2;obtain⟨q3,q4,q5⟩:=HE.out w1 (w1.alloc (.cells A0 125)) Z q1 ((Below.refl _ _).alloc (Nat.le_refl _) _) q2;have hlk2:=hlk w1 q1;have Q3:=hid q3;have Q4:=hid q4;have Q5:=hid q5;clear hp hb1 q1 q2 q3 q4 q5 hlk)
    | (go_at_call 45;refine hlast.mono ?_;rintro e w' ⟨rfl,rfl⟩)
    | (refine zq rfl 125 (.tmp 8) (.tmp 25) rfl _ A0 rfl rfl HA0.out.i HA0.out.z HA0.out.o ?_)
    | (refine z8 rfl (.agg Z) (yk 89 rfl (HBD.out _)) ?_)
    | (refine wpList_store_row rfl 89 (.tmp 4) (.tmp 29) rfl w.heap.size Z rfl rfl 89 _ Q3.out HZ.out.i rfl HZ.out.o ?_))
   refine bodyPost_ret (qw Tryz.results64 _ _ w.heap.size Z.toList _ _ rfl rfl (zy (by simpa using Q4.out)) Tryz.underlying89 rfl (by simpa using HZ.out.i)) rfl ⟨?_,Q5.out⟩
   unfold PostR
   simp only[HZ.out.e,Array.toArray_toList]
   rfl
  | some r =>
   have HR:Hid (rdT T x=.ok r.id):=hid (by unfold rdT;rw[hW];simp only[hy,hT])
   obtain⟨A,HA⟩:=ra r (H.out.at_ y r hT).id.1
   obtain⟨R,HI⟩:=ri r.id (H.out.at_ y r hT).id.1
   have HPX:Hid (∀ W:World,(W.alloc (.cells A 125)).rangeAt W.heap.size 0 R.toList):=fun W j v hv=>by
    have h1:(W.alloc (.cells A 125)).heap[W.heap.size]? = some (.cells A.toList.toArray 125):=by rw[Array.toArray_toList];exact heap_alloc_new W _
    have h2:=zy h1 j v (by
     have e:=HA.out.e
     unfold rV at e
     injection e with e
     rw[<-e]
     rw[<-HI.out.e] at hv
     simp only[List.toList_toArray] at hv ⊢
     rw[List.getElem?_append_left (List.getElem?_eq_some_iff.1 hv).1]
     exact hv)
    exact h2
   simp only[vT,hT,Option.map_some,Option.getD_some,Option.isSome_some,HA.out.e] at hlk
   rw[HR.out]
   rw[hll] at HP
   rw[HZ0.out] at hway HK
   unfold sV at hway hlk HP ⊢
   clear h hsh hW hl60 hl9 hl0 hll
   go_enter Tryz.func64,Tryz.ntmps64
   go_wp2_with (first
    | (go_at_call 80;refine hway.mono ?_;rintro e w1 ⟨hp,hb1⟩;obtain⟨va,vc,he,hlast⟩:=HP.out e w1 (by rw[HZ0.out];exact hp);subst he;obtain⟨q1,q2⟩:=HK.out w1 hb1;rw[<-HZ0.out] at q2;obtain⟨q3,q4,q5⟩:=HE.out w1 (w1.alloc (.cells A 125)) R q1 ((Below.refl _ _).alloc (Nat.le_refl _) _) q2;have hlk2:=hlk w1 q1;have Q3:=hid q3;have Q4:=hid q4;have Q5:=hid q5;clear hp hb1 q1 q2 q3 q4 q5 hlk)
    | (go_at_call 45;refine hlast.mono ?_;rintro e w' ⟨rfl,rfl⟩)
    | (refine zq rfl 125 (.tmp 8) (.tmp 25) rfl _ A rfl rfl HA.out.i HA.out.z HA.out.o ?_)
    | (refine wpList_load_mid rfl 89 (.tmp 31) rfl _ 0 rfl R.toList _ (HPX.out _) Tryz.underlying89 rfl (by simpa using HI.out.i) ?_;simp only[Array.toArray_toList])
    | (refine wpList_store_row rfl 89 (.tmp 4) (.tmp 32) rfl w.heap.size R rfl rfl 89 _ Q3.out HI.out.i (by rw[<-HI.out.z,<-HZ.out.e]) HI.out.o ?_))
   refine bodyPost_ret (qw Tryz.results64 _ _ w.heap.size R.toList _ _ rfl rfl (zy (by simpa using Q4.out)) Tryz.underlying89 rfl (by simpa using HI.out.i)) rfl ⟨?_,Q5.out⟩
   unfold PostR
   simp only[HI.out.e,Array.toArray_toList]
   rfl
def oI (o:Except Int (List Int)):List Int:=match o with
 | .ok id=>id
 | .error _=>zQ
def oE {α:Type} (o:Except Int α):Value:=match o with
 | .ok _=>.nilIface
 | .error k=>eI k
theorem postR {o:Except Int (List Int)} {e:Ending} : PostR o e ↔ e=.returned (.tuple #[.agg (row .u8 (oI o)).toArray,oE o]):=by cases o <;> rfl
def rdN (T:Ts) (x:Str):Except Int (List Int):=if isN x then rdT T x else .error 60
theorem rdT_len {S:Nat->Prop} {w:World} {t n:Nat} {T:Ts} (h:Tt S w t n T) (x:Str):IdW (oI (rdT T x)):=by
 have h0:IdW zQ:=⟨rfl,fun n hn=>by rw[List.eq_of_mem_replicate hn];exact⟨by decide,by decide⟩⟩
 unfold rdT
 cases wyT T 8 x with
 | none=>exact h0
 | some l =>
  simp only
  cases hT:T (l.getD (l.length-1) []) with
  | none=>exact h0
  | some r=>exact(h.at_ _ r hT).id
set_option maxHeartbeats 2000000 in
theorem read_any' (S:Nat->Prop) (R D t n:Nat) (go un:Bool) (T:Ts) (x:Str) (w:World) (hR:Rf w R D t go un) (h:Tt S w t n T) (hm:Nm.Mx w) :
  Calls Tryz.prog 31 #[.pointer (some ⟨R,0,none⟩),sV x] w fun e w'=>PostR (rdN T x) e/\Below w.heap.size w w':=by
 obtain⟨Z,HZ⟩:=ri zQ rfl
 have HZ0:Hid (Z=#[.int .u8 0,.int .u8 0,.int .u8 0,.int .u8 0,.int .u8 0,.int .u8 0,.int .u8 0,.int .u8 0,.int .u8 0,.int .u8 0,.int .u8 0,.int .u8 0,.int .u8 0,.int .u8 0,.int .u8 0,.int .u8 0,.int .u8 0,.int .u8 0,.int .u8 0,.int .u8 0]):=hid HZ.out.e.symm
 have HB0:Hid (Below w.heap.size w (w.alloc (.cells Z 89))):=hid ((Below.refl _ w).alloc (Nat.le_refl _) _)
 have hin:=yK x (w.alloc (.cells Z 89)) (hm.below HB0.out)
 have HK:Hid (∀ w1,Below (w.alloc (.cells Z 89)).heap.size (w.alloc (.cells Z 89)) w1->Below w.heap.size w w1/\w1.heap[w.heap.size]? = some (.cells Z 89)/\w1.cell? ⟨R,1,none⟩=some (.map (some t))):=fun w1 h1=>by
  have hb:=HB0.out.trans (h1.mono (by simp))
  exact⟨hb,(h1.block _ (by simp)).trans (heap_alloc_new _ _),(hb.cell (p:=⟨R,1,none⟩) (z7 hR.box)).trans hR.c.2.1⟩
 have HE:Hid (∀ (w1 w2:World) (A:Array Value),Below w.heap.size w w1->Below w1.heap.size w1 w2->w1.heap[w.heap.size]? = some (.cells Z 89)->w2.heap[w.heap.size]? = some (.cells Z 89)/\(w2.setRow w.heap.size A).heap[w.heap.size]? = some (.cells A 89)/\Below w.heap.size w (w2.setRow w.heap.size A)):=fun w1 w2 A b1 b2 h1=>by
  have h2:=(b2.block _ (z7 h1)).trans h1
  exact⟨h2,setRow_heap _ _ _ _ _ _ h2,below_setRow (b1.trans (b2.mono b1.size)) (Nat.le_refl _) _⟩
 have HBD:Hid (∀ W:World,(Instr.build 89 #[]).run Tryz.prog W=.ok (.agg Z) W):=fun W=>by rw[build89,HZ.out.e]
 cases hi:isN x with
 | false =>
  have HR:Hid (rdN T x=.error 60):=hid (by unfold rdN;rw[hi];rfl)
  rw[HR.out]
  rw[hi] at hin
  rw[HZ0.out] at hin HK
  unfold sV at hin ⊢
  clear h hR
  go_enter Tryz.func31,Tryz.ntmps31
  go_wp2_with (first
   | (go_at_call 58;refine hin.mono ?_;rintro e w1 ⟨rfl,hb1⟩;obtain⟨q1,q2,-⟩:=HK.out w1 hb1;rw[<-HZ0.out] at q2;obtain⟨q3,q4,q5⟩:=HE.out w1 w1 Z q1 (Below.refl _ _) q2;have Q3:=hid q3;have Q4:=hid q4;have Q5:=hid q5;clear hb1 q1 q2 q3 q4 q5)
   | (refine z8 rfl (.agg Z) (yk 89 rfl (HBD.out _)) ?_)
   | (refine wpList_store_row rfl 89 (.tmp 4) (.tmp 9) rfl w.heap.size Z rfl rfl 89 _ Q3.out HZ.out.i rfl HZ.out.o ?_))
  refine bodyPost_ret (qw Tryz.results31 _ _ w.heap.size Z.toList _ _ rfl rfl (zy (by simpa using Q4.out)) Tryz.underlying89 rfl (by simpa using HZ.out.i)) rfl ⟨?_,Q5.out⟩
  rw[postR]
  simp only[oI,oE,HZ.out.e,Array.toArray_toList]
  rfl
 | true =>
  have HR:Hid (rdN T x=rdT T x):=hid (by unfold rdN;rw[hi];rfl)
  obtain⟨R1,HI⟩:=ri _ (rdT_len h x).1
  have hrd:=fun W (hW:Below w.heap.size w W)=>read1_any S t n T x W (h.below hW) (qZ hi)
  simp only[postR,HI.out.e] at hrd
  obtain⟨ev,hev⟩:∃ v,oE (rdT T x)=v:=⟨_,rfl⟩
  rw[hev] at hrd
  rw[HR.out]
  rw[hi] at hin
  rw[HZ0.out] at hin HK
  have HEV:=hid hev
  unfold sV at hin hrd ⊢
  clear h hR hev
  go_enter Tryz.func31,Tryz.ntmps31
  go_wp2_with (first
   | (go_at_call 58;refine hin.mono ?_;rintro e w1 ⟨rfl,hb1⟩;obtain⟨q1,q2,q6⟩:=HK.out w1 hb1;rw[<-HZ0.out] at q2;have hrd1:=hrd w1 q1;have Q1:=hid q1;have Q2:=hid q2;clear hb1 q1 q2 hrd)
   | (go_at_call 64;refine hrd1.mono ?_;rintro e w2 ⟨rfl,hb2⟩;obtain⟨q3,q4,q5⟩:=HE.out w1 w2 R1 Q1.out hb2 Q2.out;have Q3:=hid q3;have Q4:=hid q4;have Q5:=hid q5;clear hb2 q3 q4 q5)
   | (refine wpList_store_row rfl 89 (.tmp 4) (.tmp 17) rfl w.heap.size R1 rfl rfl 89 _ Q3.out HI.out.i (by rw[<-HI.out.z,<-HZ.out.e]) HI.out.o ?_))
  refine bodyPost_ret (qw Tryz.results31 _ _ w.heap.size R1.toList _ _ rfl rfl (zy (by simpa using Q4.out)) Tryz.underlying89 rfl (by simpa using HI.out.i)) rfl ⟨?_,Q5.out⟩
  rw[postR]
  simp only[HI.out.e,HEV.out,Array.toArray_toList]
  rfl
theorem vq {r:Lr} {A:Array Value} (h:Ra r A) (hr:r.id.length=20) (W:World):(W.alloc (.cells A 125)).cell? ⟨W.heap.size,20,none⟩=some (sV r.tg)/\(W.alloc (.cells A 125)).cell? ⟨W.heap.size,21,none⟩=some (.slice r.a r.log.length r.c):=by
 have hl:(row .u8 r.id).length=20:=by rw[zw];exact hr
 have e:=h.e
 unfold rV at e
 injection e with e
 subst e
 refine⟨?_,?_⟩
 ·rw[cell_of_row _ _ 20 _ _ _ (heap_alloc_new W _)]
  simp[List.getElem?_append_right,hl]
 ·rw[cell_of_row _ _ 21 _ _ _ (heap_alloc_new W _)]
  simp[List.getElem?_append_right,hl]
def tgN (T:Ts) (x:Str):Except Int Str:=match gt T x with
 | .error k=>.error k
 | .ok r=>if r.tg=[] then .error 61 else .ok r.tg
def oS (o:Except Int Str):Str:=match o with
 | .ok s=>s
 | .error _=>[]
theorem gt_id {S:Nat->Prop} {w:World} {t n:Nat} {T:Ts} (h:Tt S w t n T) {x:Str} {r:Lr} (hg:gt T x=.ok r):Yu S w x r/\T x=some r/\isN x=true:=by
 unfold gt at hg
 split at hg
 ·rename_i hi
  split at hg
  ·rename_i r' hT
   cases hg
   exact⟨h.at_ x r hT,hT,hi⟩
  ·cases hg
 ·cases hg
theorem Tryz.results33:Tryz.f33.results=#[.tmp 4,.tmp 5]:=by kernel_rfl
theorem Tryz.results35:Tryz.f35.results=#[.tmp 4,.tmp 5]:=by kernel_rfl
theorem Tryz.results61:Tryz.f61.results=#[.tmp 2]:=by kernel_rfl
set_option maxHeartbeats 2000000 in
theorem target_any (S:Nat->Prop) (R D t n:Nat) (go un:Bool) (T:Ts) (x:Str) (w:World) (hR:Rf w R D t go un) (h:Tt S w t n T) (hm:Nm.Mx w) :
  Calls Tryz.prog 33 #[.pointer (some ⟨R,0,none⟩),sV x] w fun e w'=>e=.returned (.tuple #[sV (oS (tgN T x)),oE (tgN T x)])/\Below w.heap.size w w':=by
 obtain⟨_,h1,_⟩:=hR.c
 have hg:=get_any S t n T x w h hm
 unfold PostG at hg
 have HB:Hid (∀ w1 o,Below w.heap.size w w1->Below w.heap.size w (w1.alloc o)):=fun w1 o hb=>hb.alloc hb.size o
 cases hgt:gt T x with
 | error k =>
  have e1:tgN T x=.error k:=by unfold tgN;rw[hgt]
  obtain⟨A,HA⟩:=ra r0 rfl
  rw[hgt] at hg
  simp only[HA.out.e] at hg
  rw[e1]
  unfold sV at hg ⊢
  simp only[oS,oE]
  clear h hR hgt e1
  go_enter Tryz.func33,Tryz.ntmps33
  go_wp2_with (first
   | (go_at_call 60;refine hg.mono ?_;rintro e w1 ⟨rfl,hb1⟩;have HB1:=hid (HB.out w1 (.cells A 125) hb1);clear hb1)
   | (refine zq rfl 125 (.tmp 6) (.tmp 15) rfl _ A rfl rfl HA.out.i HA.out.z HA.out.o ?_))
  exact bodyPost_ret (results_tmp2 Tryz.results33 _ _ _) rfl ⟨rfl,HB1.out⟩
 | ok r =>
  obtain⟨hr,-⟩:=gt_id h hgt
  obtain⟨A,HA⟩:=ra r hr.id.1
  have hc:=fun W=>(vq HA.out hr.id.1 W).1
  rw[hgt] at hg
  simp only[HA.out.e] at hg
  obtain⟨tg,htg⟩:∃ s,r.tg=s:=⟨_,rfl⟩
  rw[htg] at hc
  by_cases h0:tg=[]
  ·have e1:tgN T x=.error 61:=by unfold tgN;rw[hgt];simp only[htg,h0,if_true]
   rw[e1]
   subst h0
   unfold sV at hg hc ⊢
   simp only[oS,oE]
   clear h hR hgt e1 htg hr
   go_enter Tryz.func33,Tryz.ntmps33
   go_wp2_with (first
    | (go_at_call 60;refine hg.mono ?_;rintro e w1 ⟨rfl,hb1⟩;have HB1:=hid (HB.out w1 (.cells A 125) hb1);have hc1:=hc w1;clear hb1)
    | (refine zq rfl 125 (.tmp 6) (.tmp 15) rfl _ A rfl rfl HA.out.i HA.out.z HA.out.o ?_))
   exact bodyPost_ret (results_tmp2 Tryz.results33 _ _ _) rfl ⟨rfl,HB1.out⟩
  ·have e1:tgN T x=.ok tg:=by unfold tgN;rw[hgt];simp only[htg,h0,if_false]
   have hne:(tg == [])=false:=by simpa using h0
   rw[e1]
   unfold sV at hg hc ⊢
   simp only[oS,oE]
   clear h hR hgt e1 htg hr h0
   go_enter Tryz.func33,Tryz.ntmps33
   go_wp2_with (first
    | (go_at_call 60;refine hg.mono ?_;rintro e w1 ⟨rfl,hb1⟩;have HB1:=hid (HB.out w1 (.cells A 125) hb1);have hc1:=hc w1;clear hb1)
    | (refine zq rfl 125 (.tmp 6) (.tmp 15) rfl _ A rfl rfl HA.out.i HA.out.z HA.out.o ?_))
   exact bodyPost_ret (results_tmp2 Tryz.results33 _ _ _) rfl ⟨rfl,HB1.out⟩
theorem info129:(Tryz.prog.info? 129).map (fun i=>(i.zero,i.size,i.bytes))=some (some (.agg (qv ⟨zQ,zQ,⟨[],[],0,0⟩,[]⟩).toArray),45,104):=by kernel_rfl
theorem und98:Tryz.prog.underlying 98=some (.slice 129):=by kernel_rfl
theorem clone_log (a:Option Addr) (c:Nat) (l:List Le) (w:World) (h:Px qv 45 dL w a c l) (ho:∀ e ∈ l,uy e) (hl:l.length<=1000000) :
  Calls Tryz.prog 61 #[.slice a l.length c] w fun e w'=>∃ v,e=.returned v/\Bx qv 45 129 w w' w.heap.size v l:=by
 have hq:∀ (w:World) (a:Option Addr) (n c n' c':Nat),(binOp .eql 98 (.slice a n c) (.slice none n' c')).run Tryz.prog w=.ok (.bool a.isNone) w:=fun w a n c n' c'=>Lib.run_eql_slice_nil w _ _ a n c n' c' und98
 obtain⟨L,HL⟩:=nm_ l.length
 rw[HL.out]
 cases a with
 | none =>
  have h0:l=[]:=List.length_eq_zero_iff.1 (by have:=h.capl;have:=h.nil rfl;omega)
  subst h0
  have:L=0:=HL.out.symm
  subst this
  go_enter Tryz.func61,Tryz.ntmps61
  go_wp2_with fail
  exact bodyPost_ret (results_tmp Tryz.results61 _ _ _) rfl ⟨_,rfl,Below.refl _ _,World.ownsRow_nil _ _ _ _,Nat.le_refl _⟩
 | some p =>
  have HB:Hid (Bx qv 45 129 w (w.alloc (.cells #[] 129)) w.heap.size (.slice (some ⟨w.heap.size,0,none⟩) 0 0) []):=hid ⟨(Below.refl _ w).alloc (Nat.le_refl _) _,World.ownsRow_made w #[] 0 (Nat.le_refl _) (Nat.zero_le _) (by simp),by simp⟩
  have HP:Hid (Px qv 45 dL (w.alloc (.cells #[] 129)) (some p) c l):=hid (h.below ((Below.refl _ w).alloc (Nat.le_refl _) _))
  have HO:=hid ho
  go_enter Tryz.func61,Tryz.ntmps61
  go_wp2_with (at_builtin;refine zj (enc:=qv) (k:=45) (d:=dL) rfl _ _ 98 129 und98 info129 rfl (by decide) (by decide) vZ rfl _ _ [] rfl HB.out (some p) c l (by rw[HL.out];rfl) HP.out (fun x hx=>yx (HO.out x hx)) (by simpa using Nat.le_trans hl (by decide)) ?_;intro v2 w2 hb2 hg2 hm2;have HB2:=hid hb2;clear hb2 hg2 hm2)
  exact bodyPost_ret (results_tmp Tryz.results61 _ _ _) rfl ⟨_,rfl,HB2.out⟩
def lgN (T:Ts) (x:Str):Except Int (List Le):=match gt T x with
 | .error k=>.error k
 | .ok r=>.ok r.log
def oL (o:Except Int (List Le)):List Le:=match o with
 | .ok l=>l
 | .error _=>[]
set_option maxHeartbeats 2000000 in
theorem log_any (S:Nat->Prop) (R D t n:Nat) (go un:Bool) (T:Ts) (x:Str) (w:World) (hR:Rf w R D t go un) (h:Tt S w t n T) (hm:Nm.Mx w) :
  Calls Tryz.prog 35 #[.pointer (some ⟨R,0,none⟩),sV x] w fun e w'=>∃ v,e=.returned (.tuple #[v,oE (lgN T x)])/\Bx qv 45 129 w w' w.heap.size v (oL (lgN T x)):=by
 obtain⟨_,h1,_⟩:=hR.c
 have hg:=get_any S t n T x w h hm
 unfold PostG at hg
 have HB:Hid (∀ w1 o,Below w.heap.size w w1->Below w.heap.size w (w1.alloc o)):=fun w1 o hb=>hb.alloc hb.size o
 cases hgt:gt T x with
 | error k =>
  have e1:lgN T x=.error k:=by unfold lgN;rw[hgt]
  obtain⟨A,HA⟩:=ra r0 rfl
  rw[hgt] at hg
  simp only[HA.out.e] at hg
  rw[e1]
  unfold sV at hg ⊢
  simp only[oL,oE]
  clear h hR hgt e1
  go_enter Tryz.func35,Tryz.ntmps35
  go_wp2_with (first
   | (go_at_call 60;refine hg.mono ?_;rintro e w1 ⟨rfl,hb1⟩;have HB1:=hid (HB.out w1 (.cells A 125) hb1);clear hb1)
   | (refine zq rfl 125 (.tmp 6) (.tmp 15) rfl _ A rfl rfl HA.out.i HA.out.z HA.out.o ?_))
  exact bodyPost_ret (results_tmp2 Tryz.results35 _ _ _) rfl ⟨_,rfl,HB1.out,World.ownsRow_nil _ _ _ _,HB1.out.size⟩
 | ok r =>
  obtain⟨hr,-⟩:=gt_id h hgt
  have HRL:=hid hr
  obtain⟨A,HA⟩:=ra r hr.id.1
  have hc:=fun W=>(vq HA.out hr.id.1 W).2
  have e1:lgN T x=.ok r.log:=by unfold lgN;rw[hgt]
  rw[hgt] at hg
  simp only[HA.out.e] at hg
  have hcl:=fun W (hW:Below w.heap.size w W)=>clone_log r.a r.c r.log W (HRL.out.px.below hW) HRL.out.ok (Nat.le_trans HRL.out.few (by decide))
  obtain⟨ll,HLL⟩:=nm_ r.log.length
  rw[HLL.out] at hc hcl
  rw[e1]
  unfold sV at hg ⊢
  simp only[oL,oE]
  clear h hR hgt e1 hr
  go_enter Tryz.func35,Tryz.ntmps35
  go_wp2_with (first
   | (go_at_call 60;refine hg.mono ?_;rintro e w1 ⟨rfl,hb1⟩;have hb2:=HB.out w1 (.cells A 125) hb1;have hcl1:=hcl _ hb2;have HB2:=hid hb2;have hc1:=hc w1;clear hb1 hb2 hcl hc)
   | (go_at_call 61;refine hcl1.mono ?_;rintro e w2 ⟨v,rfl,hbx⟩;have HBX:=hid hbx;clear hbx)
   | (refine zq rfl 125 (.tmp 6) (.tmp 15) rfl _ A rfl rfl HA.out.i HA.out.z HA.out.o ?_))
  refine bodyPost_ret (results_tmp2 Tryz.results35 _ _ _) rfl ⟨v,rfl,HB2.out.trans (HBX.out.below.mono HB2.out.size),?_,Nat.le_trans HB2.out.size (HBX.out.below.size)⟩
  obtain⟨hl,h1 | ⟨g,cap,cur,hv,hb,r⟩⟩:=HBX.out.own
  ·exact⟨hl,.inl h1⟩
  ·exact⟨hl,.inr ⟨g,cap,cur,hv,Nat.le_trans HB2.out.size hb,r⟩⟩
structure Sp where
 word:Str
 name:Str
 id:List Int
 tg:Str
 e:Le
def zX (s:Sp):List Value:=sV s.word :: sV s.name :: (row .u8 s.id++(sV s.tg :: qv s.e))
structure vk (s:Sp):Prop where
 id:IdW s.id
 e:uy s.e
 nm:s.name.length<=60
 tg:s.tg.length<=60
theorem zJ {s:Sp} (h:vk s):(zX s).length=68:=by simp[zX,zw,h.id.1,yx h.e]
theorem qV (s:Sp):∀ v ∈ zX s,v.oneCell'=true:=fun v hv=>by
 unfold zX at hv
 simp only[List.mem_append,List.mem_cons] at hv
 rcases hv with rfl | rfl | hv | rfl | hv
 ·rfl
 ·rfl
 ·exact yQ .u8 s.id v hv
 ·rfl
 ·exact vZ s.e v hv
def wR:Str:=[114,101,102]
def wL:Str:=[108,105,110,107]
def wD:Str:=[100,114,111,112]
def wG:Str:=[108,111,103]
def aT (T:Ts):Rk.Tb Str Kp Le:=fun x=>(T x).map fun r=>((r.id,r.tg),r.log)
def sP (s:Sp):Rk.St Str Kp Le:=(s.name,if s.word=wR then .inl (s.id,[]) else if s.word=wL then .inl (zQ,s.tg) else if s.word=wD then .inr (.inl ()) else .inr (.inr s.e))
def LgO (g:Nat) (w:World) (r:Lr):Prop:=r.c=r.log.length ∨ w.ownsRow g 129 45 (.slice r.a r.log.length r.c) r.log.length (r.log.flatMap qv)
structure To (S:Nat->Prop) (g:Nat) (w:World) (t n:Nat) (T:Ts):Prop where
 tt:Tt S w t n T
 lg:∀ x r,T x=some r->LgO g w r
 un:∀ x y r q,T x=some r->T y=some q->x ≠ y->r.c ≠ r.log.length->∀ p p':Addr,r.a=some p->q.a=some p'->p.block ≠ p'.block
 ge:g<=t
 out:∀ i,S i->i<g
structure Sa (s:Sp) (B:Array Value) (K:Nat):Prop where
 e:(zX s).toArray=B
 c0:∀ W:World,W.heap[K]? = some (.cells B 143)->W.cell? ⟨K,0,none⟩=some (sV s.word)
 c1:∀ W:World,W.heap[K]? = some (.cells B 143)->W.cell? ⟨K,1,none⟩=some (sV s.name)
 c22:∀ W:World,W.heap[K]? = some (.cells B 143)->W.cell? ⟨K,22,none⟩=some (sV s.tg)
 r2:∀ W:World,W.heap[K]? = some (.cells B 143)->W.rangeAt K 2 (row .u8 s.id)
 r23:∀ W:World,W.heap[K]? = some (.cells B 143)->W.rangeAt K 23 (qv s.e)
theorem sa (s:Sp) (h:vk s) (K:Nat):∃ B,Hid (Sa s B K):=by
 have hl:(row .u8 s.id).length=20:=by rw[zw];exact h.id.1
 refine⟨_,hid ⟨rfl,fun W hW=>?_,fun W hW=>?_,fun W hW=>?_,fun W hW j v hv=>?_,fun W hW j v hv=>?_⟩⟩
 ·rw[cell_of_row _ _ 0 _ _ _ hW];rfl
 ·rw[cell_of_row _ _ 1 _ _ _ hW];rfl
 ·rw[cell_of_row _ _ 22 _ _ _ hW]
  simp[zX,List.getElem?_append_right,hl]
 ·rw[cell_of_row _ _ (2+j) _ _ _ hW]
  have hj:=(List.getElem?_eq_some_iff.1 hv).1
  simp only[zX,List.getElem?_toArray,show 2+j=j+1+1 by omega,List.getElem?_cons_succ]
  rw[List.getElem?_append_left hj]
  exact hv
 ·rw[cell_of_row _ _ (23+j) _ _ _ hW]
  simp only[zX,List.getElem?_toArray,show 23+j=(21+j)+1+1 by omega,List.getElem?_cons_succ]
  rw[List.getElem?_append_right (by omega),hl,show 21+j-20=j+1 by omega,List.getElem?_cons_succ]
  exact hv
theorem build02 (x:List Int) (hx:x.length=20) (a:Option Addr) (n c:Nat) (w:World):(Instr.build 125 #[(0,.agg (row .u8 x).toArray),(2,.slice a n c)]).run Tryz.prog w=.ok (.agg (row .u8 x++[sV [],.slice a n c]).toArray) w:=by
 obtain⟨a0,a1,a2,a3,a4,a5,a6,a7,a8,a9,a10,a11,a12,a13,a14,a15,a16,a17,a18,a19,rfl⟩:=yZ x hx
 kernel_rfl
theorem build12 (v:ByteArray) (a:Option Addr) (n c:Nat) (w:World):(Instr.build 125 #[(1,.string v),(2,.slice a n c)]).run Tryz.prog w=.ok (.agg (row .u8 zQ++[Value.string v,Value.slice a n c]).toArray) w:=by kernel_rfl
theorem xJ {P:Program} {o:Oper} {a:Act} {w w':World} (t:TypeId) (i j:Nat) (x y:Operand) (ho:o.op=.build t #[(i,x),(j,y)]) (u1 u2 v:Value) (h1:a.eval x=u1) (h2:a.eval y=u2) (hr:(Instr.build t #[(i,u1),(j,u2)]).run P w=.ok v w'):(execOp a.eval o).run P w=.ok (.value v) w':=by
 unfold execOp
 simp[ho,h1,h2,hr,Result.andThen]
def gR (T:Ts) (x:Str):Lr:=(T x).getD r0
theorem gR_ok {S:Nat->Prop} {g:Nat} {w:World} {t n:Nat} {T:Ts} (h:To S g w t n T) (x:Str) (hx:x.length<=60):Yu S w x (gR T x)/\LgO g w (gR T x)/\(vT T x).getD (rV r0)=rV (gR T x):=by
 unfold gR vT
 cases hT:T x with
 | none=>exact⟨⟨hx,⟨rfl,fun n hn=>by rw[List.eq_of_mem_replicate hn];exact⟨by decide,by decide⟩⟩,by simp[r0],⟨by simp[r0],fun h=>by simp[r0] at h,fun _=>rfl⟩,by simp[r0],fun e he=>by simp[r0] at he,fun p hp=>by cases hp⟩,.inl rfl,rfl⟩
 | some r=>exact⟨h.tt.at_ x r hT,h.lg x r hT,rfl⟩
theorem Tryz.results81:Tryz.f81.results=#[]:=by kernel_rfl
theorem To.below {S:Nat->Prop} {g:Nat} {w W:World} {t n:Nat} {T:Ts} (h:To S g w t n T) (hb:Below w.heap.size w W):To S g W t n T :=
 ⟨h.tt.below hb,fun x r hr=>by
  rcases h.lg x r hr with k | k
  ·exact .inl k
  ·exact .inr (zV (T:=0) k (.below hb) (by decide)),h.un,h.ge,h.out⟩
def uT (T:Ts) (x:Str) (o:Option Lr):Ts:=fun y=>if y=x then o else T y
structure Bg (g:Nat) (w w':World):Prop where
 b:Below g w w'
 k:∀ (i:Nat) (c:Array Value) (f:Nat × Nat),w.heap[i]? = some (.cells c 143 f)->w'.heap[i]? = some (.cells c 143 f)
theorem Bg.of {g:Nat} {w w2 w3:World} (h:Below w.heap.size w w2) (hg:g<=w.heap.size) (k:Bg g w2 w3):Bg g w w3 :=
 ⟨(h.mono hg).trans k.b,fun i c f hi=>k.k i c f ((h.block i (z7 hi)).trans hi)⟩
theorem Bg.trans {g:Nat} {w w2 w3:World} (h:Bg g w w2) (k:Bg g w2 w3):Bg g w w3:=⟨h.b.trans k.b,fun i c f hi=>k.k i c f (h.k i c f hi)⟩
theorem To.put {S:Nat->Prop} {g:Nat} {w w':World} {t n:Nat} {T:Ts} (h:To S g w t n T) {x:Str} (o:Option Lr) (hx:x.length<=60) (ho:∀ r,o=some r->IdW r.id/\r.tg.length<=60/\r.a=(gR T x).a/\r.c=(gR T x).c/\r.log=(gR T x).log) (hT:TM (rV r0) w' t (n+1) (vT (uT T x o))) (hg:w.grownBy w' (some t)):To S g w' t (n+1) (uT T x o)/\Bg g w w':=by
 obtain⟨es,ck,hb⟩:=h.tt.tm.box
 have hb':Below g w w':=⟨hg.os,hg.tape,hg.output,hg.size,fun i hi=>hg.block i (by have:=h.tt.tm.lt;have:=h.ge;omega) (fun e=>by cases e;have:=h.ge;omega)⟩
 have hbl:∀ (i:Nat) (c:Array Value) (f:Nat × Nat),w.heap[i]? = some (.cells c 129 f)->w'.heap[i]? = some (.cells c 129 f):=fun i c f hi=>Tf.grown hb hg hi
 have hpx:∀ y r,Yu S w y r->Px qv 45 dL w' r.a r.c r.log:=fun y r hr=>by
  refine⟨hr.px.capl,fun h0=>?_,hr.px.nil⟩
  obtain⟨b,off,e1,e2,e3⟩:=hr.px.at_ h0
  refine⟨b,off,e1,Nat.lt_of_lt_of_le e2 hg.size,fun i hi j v hv=>?_⟩
  rw[World.cell?_of_block (a:=⟨b,off+i*45+j,none⟩) (hg.block b e2 (fun e=>by
   cases e
   have h5:=e3 i hi j v hv
   simp[World.cell?,hb] at h5))]
  exact e3 i hi j v hv
 have hlg:∀ r,LgO g w r->LgO g w' r:=fun r k=>by
  rcases k with k | k
  ·exact .inl k
  ·exact .inr (vJ k hb hg)
 have hok:=gR_ok h x hx
 have hcases:∀ y r,uT T x o y=some r->(y=x/\o=some r) ∨ (y ≠ x/\T y=some r):=fun y r hr=>by
  unfold uT at hr
  by_cases e:y=x
  ·rw[if_pos e] at hr;exact .inl ⟨e,hr⟩
  ·rw[if_neg e] at hr;exact .inr ⟨e,hr⟩
 refine⟨⟨⟨hT,fun y r hr=>?_,h.tt.out⟩,fun y r hr=>?_,fun y z r q hy hz hne hc p p' hp hp'=>?_,h.ge,h.out⟩,hb',fun i c f hi=>Tf.grown hb hg hi⟩
 ·rcases hcases y r hr with ⟨rfl,e⟩ | ⟨e,e2⟩
  ·obtain⟨k1,k2,k3,k4,k5⟩:=ho r e
   have:=hok.1
   exact⟨hx,k1,k2,by rw[k3,k4,k5];exact hpx y _ this,by rw[k5];exact this.few,by rw[k5];exact this.ok,fun p hp=>⟨(this.out p (k3 ▸ hp)).1,Nat.lt_of_lt_of_le (this.out p (k3 ▸ hp)).2 hg.size⟩⟩
  ·have:=h.tt.at_ y r e2
   exact⟨this.nm,this.id,this.tg,hpx y r this,this.few,this.ok,fun p hp=>⟨(this.out p hp).1,Nat.lt_of_lt_of_le (this.out p hp).2 hg.size⟩⟩
 ·rcases hcases y r hr with ⟨rfl,e⟩ | ⟨e,e2⟩
  ·obtain⟨k1,k2,k3,k4,k5⟩:=ho r e
   have:=hlg _ hok.2.1
   unfold LgO at this ⊢
   rw[k3,k4,k5]
   exact this
  ·exact hlg _ (h.lg y r e2)
 ·have key:∀ u s,uT T x o u=some s->∃ s',s'.a=s.a/\s'.c=s.c/\s'.log=s.log/\(s.a=none ∨ T u=some s'):=fun u s hu=>by
   rcases hcases u s hu with ⟨rfl,e⟩ | ⟨e,e2⟩
   ·obtain⟨k1,k2,k3,k4,k5⟩:=ho s e
    refine⟨gR T u,k3.symm,k4.symm,k5.symm,?_⟩
    unfold gR at k3 ⊢
    cases hT2:T u with
    | none=>rw[hT2] at k3;exact .inl k3
    | some r'=>exact .inr rfl
   ·exact⟨s,rfl,rfl,rfl,.inr e2⟩
  obtain⟨r',a1,a2,a3,a4⟩:=key y r hy
  obtain⟨q',b1,b2,b3,b4⟩:=key z q hz
  rcases a4 with a4 | a4
  ·rw[a4] at hp;cases hp
  rcases b4 with b4 | b4
  ·rw[b4] at hp';cases hp'
  exact h.un y z r' q' a4 b4 hne (by rw[a2,a3];exact hc) p p' (a1 ▸ hp) (b1 ▸ hp')
theorem vT_uT (T:Ts) (x:Str) (o:Option Lr):vT (uT T x o)=fun y=>if y=x then o.map rV else vT T y:=by
 funext y
 simp only[vT,uT]
 by_cases e:y=x <;> simp[e]
theorem aT_put (T:Ts) (x:Str) (k:Kp) (r:Lr) (h1:(r.id,r.tg)=k) (h2:r.log=(gR T x).log):aT (uT T x (some r))=Rk.putT (aT T) x k:=by
 funext y
 simp only[aT,uT,Rk.putT]
 by_cases e:y=x
 ·subst e
  simp only[if_true,Option.map_some,h1,h2,gR]
  cases T y <;> rfl
 ·simp[e]
theorem aT_del (T:Ts) (x:Str):aT (uT T x none)=Rk.delT (aT T) x:=by
 funext y
 simp only[aT,uT,Rk.delT]
 by_cases e:y=x <;> simp[e]
set_option maxHeartbeats 400000 in
theorem take_ref (S:Nat->Prop) (g t n:Nat) (T:Ts) (s:Sp) (w:World) (h:To S g w t n T) (hs:vk s) (hn:n<=90000) (hword:s.word=wR) :
  Calls Tryz.prog 81 #[.map (some t),.agg (zX s).toArray] w fun e w'=>e=.returned (.tuple #[])/\(∃ T',To S g w' t (n+1) T'/\aT T'=Rk.tk (aT T) (sP s))/\Bg g w w':=by
 obtain⟨B,HS⟩:=sa s hs w.heap.size
 obtain⟨hok,hlo,hva⟩:=gR_ok h s.name hs.nm
 obtain⟨A,HA⟩:=ra (gR T s.name) hok.id.1
 obtain⟨w1,hw1⟩:∃ w1,w.alloc (.cells B 143)=w1:=⟨_,rfl⟩
 obtain⟨w2,hw2⟩:∃ w2,w1.alloc (.cells A 125)=w2:=⟨_,rfl⟩
 have hk1:w1.heap[w.heap.size]? = some (.cells B 143):=by rw[<-hw1];exact heap_alloc_new _ _
 have hb1:Below w.heap.size w w1:=by rw[<-hw1];exact(Below.refl _ w).alloc (Nat.le_refl _) _
 have hb12:Below w1.heap.size w1 w2:=by rw[<-hw2];exact(Below.refl _ w1).alloc (Nat.le_refl _) _
 have hk2:w2.heap[w.heap.size]? = some (.cells B 143):=(hb12.block _ (z7 hk1)).trans hk1
 have hb2:Below w.heap.size w w2:=hb1.trans (hb12.mono hb1.size)
 have ht2:=h.below hb2
 have hlk:(Instr.lookup 105 (.map (some t)) (sV s.name) false).run Tryz.prog w1=.ok (.agg A) w1:=by
  have:=(h.below hb1).tt.tm.look1 xu (j0 w1) (x:=s.name) (by have:=hs.nm;omega)
  rw[hva,HA.out.e] at this
  exact this
 have hc1:=HS.out.c1 w1 hk1
 have hd0:=HS.out.c0 w2 hk2
 have hd1:=HS.out.c1 w2 hk2
 have HD2:=hid (HS.out.r2 w2 hk2)
 have hd22:=HS.out.c22 w2 hk2
 have hl2:=(vq HA.out hok.id.1 w1).2
 rw[hw2] at hl2
 rw[hword] at hd0
 rw[HS.out.e]
 have HSP:Hid (sP s=(s.name,.inl (s.id,[]))):=hid (by unfold sP;rw[hword];rfl)
 obtain⟨r1,HR0⟩:=nn_ (⟨s.id,[],(gR T s.name).a,(gR T s.name).c,(gR T s.name).log⟩:Lr)
 have hput:=ht2.tt.tm.put (by omega) xu (x:=s.name) (by have:=hs.nm;omega) (rV r1)
 obtain⟨w3,hpr,hT3,hg3⟩:=hput
 have hto:=ht2.put (x:=s.name) (some r1) hs.nm (fun r hr=>by cases hr;rw[HR0.out];exact⟨hs.id,by simp,rfl,rfl,rfl⟩) (by rw[vT_uT];exact hT3) hg3
 have HBG:Hid (∀ w3,Bg g w2 w3->Bg g w w3):=fun w3 hb=>Bg.of hb2 (by have:=h.tt.tm.lt;have:=h.ge;omega) hb
 have HE:Hid ((∃ T',To S g w3 t (n+1) T'/\aT T'=Rk.tk (aT T) (sP s))/\Bg g w w3):=hid ⟨⟨_,hto.1,by rw[HSP.out,aT_put T s.name (s.id,[]) r1 (by rw[HR0.out]) (by rw[HR0.out])];rfl⟩,HBG.out _ hto.2⟩
 obtain⟨la,ln,lc,hlv⟩:∃ a n c,(Value.slice (gR T s.name).a (gR T s.name).log.length (gR T s.name).c)=.slice a n c:=⟨_,_,_,rfl⟩
 obtain⟨R,hRw⟩:∃ R,row .u8 s.id=R:=⟨_,rfl⟩
 have HI20:Hid ((Tryz.prog.info? 89).map (·.size)=some R.length):=hid (by rw[<-hRw,zw,hs.id.1];kernel_rfl)
 have hbd:∀ W:World,(Instr.build 125 #[(0,.agg R.toArray),(2,.slice la ln lc)]).run Tryz.prog W=.ok (rV r1) W:=fun W=>by rw[<-hRw,<-hlv,build02 _ hs.id.1,HR0.out];rfl
 rw[hRw] at HD2
 rw[hlv] at hl2
 obtain⟨V,hV⟩:∃ V,rV r1=V:=⟨_,rfl⟩
 rw[hV] at hpr hbd
 unfold sV at hpr hlk hc1 hd1 hd22
 unfold sV wR at hd0
 have HBD:=hid hbd
 have HPR:=hid hpr
 clear hV hRw hlv hto hT3 hg3 ht2 h hok hlo hva hbd hpr hd22 hk1 hk2
 go_enter Tryz.func81,Tryz.ntmps81
 go_wp2_with (first
  | (refine zq rfl 125 (.tmp 4) (.tmp 8) rfl _ A rfl rfl HA.out.i HA.out.z HA.out.o ?_;rw[hw2])
  | (refine wpList_load_mid rfl 89 (.tmp 16) rfl _ 2 rfl R _ HD2.out Tryz.underlying89 rfl HI20.out ?_)
  | (refine z8 rfl V (xJ 125 0 2 (.tmp 17) (.tmp 19) rfl (.agg R.toArray) (.slice la ln lc) V rfl rfl (HBD.out _)) ?_)
  | (at_mapUpdate;refine xY rfl (x9 (mv:=.map (some t)) (kv:=.string ⟨s.name.toArray⟩) (v:=V) rfl rfl rfl rfl HPR.out) ?_))
 exact bodyPost_end (results_none Tryz.results81 _ _ _) rfl ⟨rfl,HE.out⟩
set_option maxHeartbeats 400000 in
theorem take_link (S:Nat->Prop) (g t n:Nat) (T:Ts) (s:Sp) (w:World) (h:To S g w t n T) (hs:vk s) (hn:n<=90000) (hword:s.word=wL) :
  Calls Tryz.prog 81 #[.map (some t),.agg (zX s).toArray] w fun e w'=>e=.returned (.tuple #[])/\(∃ T',To S g w' t (n+1) T'/\aT T'=Rk.tk (aT T) (sP s))/\Bg g w w':=by
 obtain⟨B,HS⟩:=sa s hs w.heap.size
 obtain⟨hok,hlo,hva⟩:=gR_ok h s.name hs.nm
 obtain⟨A,HA⟩:=ra (gR T s.name) hok.id.1
 obtain⟨w1,hw1⟩:∃ w1,w.alloc (.cells B 143)=w1:=⟨_,rfl⟩
 obtain⟨w2,hw2⟩:∃ w2,w1.alloc (.cells A 125)=w2:=⟨_,rfl⟩
 have hk1:w1.heap[w.heap.size]? = some (.cells B 143):=by rw[<-hw1];exact heap_alloc_new _ _
 have hb1:Below w.heap.size w w1:=by rw[<-hw1];exact(Below.refl _ w).alloc (Nat.le_refl _) _
 have hb12:Below w1.heap.size w1 w2:=by rw[<-hw2];exact(Below.refl _ w1).alloc (Nat.le_refl _) _
 have hk2:w2.heap[w.heap.size]? = some (.cells B 143):=(hb12.block _ (z7 hk1)).trans hk1
 have hb2:Below w.heap.size w w2:=hb1.trans (hb12.mono hb1.size)
 have ht2:=h.below hb2
 have hlk:(Instr.lookup 105 (.map (some t)) (sV s.name) false).run Tryz.prog w1=.ok (.agg A) w1:=by
  have:=(h.below hb1).tt.tm.look1 xu (j0 w1) (x:=s.name) (by have:=hs.nm;omega)
  rw[hva,HA.out.e] at this
  exact this
 have hc1:=HS.out.c1 w1 hk1
 have hd0:=HS.out.c0 w2 hk2
 have hd1:=HS.out.c1 w2 hk2
 have HD2:=hid (HS.out.r2 w2 hk2)
 have hd22:=HS.out.c22 w2 hk2
 have hl2:=(vq HA.out hok.id.1 w1).2
 rw[hw2] at hl2
 rw[hword] at hd0
 rw[HS.out.e]
 have HSP:Hid (sP s=(s.name,.inl (zQ,s.tg))):=hid (by unfold sP;rw[hword];rfl)
 obtain⟨r1,HR0⟩:=nn_ (⟨zQ,s.tg,(gR T s.name).a,(gR T s.name).c,(gR T s.name).log⟩:Lr)
 have hput:=ht2.tt.tm.put (by omega) xu (x:=s.name) (by have:=hs.nm;omega) (rV r1)
 obtain⟨w3,hpr,hT3,hg3⟩:=hput
 have hto:=ht2.put (x:=s.name) (some r1) hs.nm (fun r hr=>by cases hr;rw[HR0.out];exact⟨⟨rfl,fun n hn=>by rw[List.eq_of_mem_replicate hn];exact⟨by decide,by decide⟩⟩,hs.tg,rfl,rfl,rfl⟩) (by rw[vT_uT];exact hT3) hg3
 have HBG:Hid (∀ w3,Bg g w2 w3->Bg g w w3):=fun w3 hb=>Bg.of hb2 (by have:=h.tt.tm.lt;have:=h.ge;omega) hb
 have HE:Hid ((∃ T',To S g w3 t (n+1) T'/\aT T'=Rk.tk (aT T) (sP s))/\Bg g w w3):=hid ⟨⟨_,hto.1,by rw[HSP.out,aT_put T s.name (zQ,s.tg) r1 (by rw[HR0.out]) (by rw[HR0.out])];rfl⟩,HBG.out _ hto.2⟩
 obtain⟨la,ln,lc,hlv⟩:∃ a n c,(Value.slice (gR T s.name).a (gR T s.name).log.length (gR T s.name).c)=.slice a n c:=⟨_,_,_,rfl⟩
 have hbd:∀ W:World,(Instr.build 125 #[(1,.string ⟨s.tg.toArray⟩),(2,.slice la ln lc)]).run Tryz.prog W=.ok (rV r1) W:=fun W=>by rw[<-hlv,build12,HR0.out];rfl
 rw[hlv] at hl2
 obtain⟨V,hV⟩:∃ V,rV r1=V:=⟨_,rfl⟩
 rw[hV] at hpr hbd
 unfold sV at hpr hlk hc1 hd1 hd22
 unfold sV wL at hd0
 have HBD:=hid hbd
 have HPR:=hid hpr
 clear hV hlv hto hT3 hg3 ht2 h hok hlo hva hbd hpr hk1 hk2
 go_enter Tryz.func81,Tryz.ntmps81
 go_wp2_with (first
  | (refine zq rfl 125 (.tmp 4) (.tmp 8) rfl _ A rfl rfl HA.out.i HA.out.z HA.out.o ?_;rw[hw2])
  | (refine z8 rfl V (xJ 125 1 2 (.tmp 27) (.tmp 29) rfl (.string ⟨s.tg.toArray⟩) (.slice la ln lc) V rfl rfl (HBD.out _)) ?_)
  | (at_mapUpdate;refine xY rfl (x9 (mv:=.map (some t)) (kv:=.string ⟨s.name.toArray⟩) (v:=V) rfl rfl rfl rfl HPR.out) ?_))
 exact bodyPost_end (results_none Tryz.results81 _ _ _) rfl ⟨rfl,HE.out⟩
set_option maxHeartbeats 400000 in
theorem take_drop (S:Nat->Prop) (g t n:Nat) (T:Ts) (s:Sp) (w:World) (h:To S g w t n T) (hs:vk s) (hn:n<=90000) (hword:s.word=wD) :
  Calls Tryz.prog 81 #[.map (some t),.agg (zX s).toArray] w fun e w'=>e=.returned (.tuple #[])/\(∃ T',To S g w' t (n+1) T'/\aT T'=Rk.tk (aT T) (sP s))/\Bg g w w':=by
 obtain⟨B,HS⟩:=sa s hs w.heap.size
 obtain⟨hok,hlo,hva⟩:=gR_ok h s.name hs.nm
 obtain⟨A,HA⟩:=ra (gR T s.name) hok.id.1
 obtain⟨w1,hw1⟩:∃ w1,w.alloc (.cells B 143)=w1:=⟨_,rfl⟩
 obtain⟨w2,hw2⟩:∃ w2,w1.alloc (.cells A 125)=w2:=⟨_,rfl⟩
 have hk1:w1.heap[w.heap.size]? = some (.cells B 143):=by rw[<-hw1];exact heap_alloc_new _ _
 have hb1:Below w.heap.size w w1:=by rw[<-hw1];exact(Below.refl _ w).alloc (Nat.le_refl _) _
 have hb12:Below w1.heap.size w1 w2:=by rw[<-hw2];exact(Below.refl _ w1).alloc (Nat.le_refl _) _
 have hk2:w2.heap[w.heap.size]? = some (.cells B 143):=(hb12.block _ (z7 hk1)).trans hk1
 have hb2:Below w.heap.size w w2:=hb1.trans (hb12.mono hb1.size)
 have ht2:=h.below hb2
 have hlk:(Instr.lookup 105 (.map (some t)) (sV s.name) false).run Tryz.prog w1=.ok (.agg A) w1:=by
  have:=(h.below hb1).tt.tm.look1 xu (j0 w1) (x:=s.name) (by have:=hs.nm;omega)
  rw[hva,HA.out.e] at this
  exact this
 have hc1:=HS.out.c1 w1 hk1
 have hd0:=HS.out.c0 w2 hk2
 have hd1:=HS.out.c1 w2 hk2
 have HD2:=hid (HS.out.r2 w2 hk2)
 have hd22:=HS.out.c22 w2 hk2
 have hl2:=(vq HA.out hok.id.1 w1).2
 rw[hw2] at hl2
 rw[hword] at hd0
 rw[HS.out.e]
 have HSP:Hid (sP s=(s.name,.inr (.inl ()))):=hid (by unfold sP;rw[hword];rfl)
 obtain⟨w3,hpr,hT3,hg3⟩:=ht2.tt.tm.del xu (x:=s.name) (by have:=hs.nm;omega) 0
 have hto:=ht2.put (x:=s.name) none hs.nm (fun r hr=>by cases hr) (by rw[vT_uT];exact hT3.mono (by omega)) hg3
 have HBG:Hid (∀ w3,Bg g w2 w3->Bg g w w3):=fun w3 hb=>Bg.of hb2 (by have:=h.tt.tm.lt;have:=h.ge;omega) hb
 have HE:Hid ((∃ T',To S g w3 t (n+1) T'/\aT T'=Rk.tk (aT T) (sP s))/\Bg g w w3):=hid ⟨⟨_,hto.1,by rw[HSP.out,aT_del];rfl⟩,HBG.out _ hto.2⟩
 unfold sV at hpr hlk hc1 hd1 hd22
 unfold sV wD at hd0
 have HPR:=hid hpr
 clear hto hT3 hg3 ht2 h hok hlo hva hpr hk1 hk2
 go_enter Tryz.func81,Tryz.ntmps81
 go_wp2_with (first
  | (refine zq rfl 125 (.tmp 4) (.tmp 8) rfl _ A rfl rfl HA.out.i HA.out.z HA.out.o ?_;rw[hw2])
  | (at_delete;refine z8 rfl _ (exec_delete (mv:=.map (some t)) (kv:=.string ⟨s.name.toArray⟩) rfl rfl rfl HPR.out) ?_))
 exact bodyPost_end (results_none Tryz.results81 _ _ _) rfl ⟨rfl,HE.out⟩
end Go.Proofs.YtgliaiemkfopeaaGreatDoor.K
