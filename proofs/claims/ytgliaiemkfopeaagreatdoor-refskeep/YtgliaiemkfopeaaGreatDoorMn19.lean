import Derived.Test.YtgliaiemkfopeaaGreatDoorMn09
import Derived.Test.YtgliaiemkfopeaaGreatDoorMn18
import Derived.Shelf.Bytes.SlIndexAt
set_option linter.unusedSectionVars false
set_option linter.unusedSimpArgs false
set_option linter.unusedVariables false
set_option maxRecDepth 20000
set_option maxHeartbeats 4000000
namespace Go.Proofs.YtgliaiemkfopeaaGreatDoor.K
open Go.RowKit Go.Shelf
theorem idx_line:∀ (l r:Str),(10:UInt8) ∉ l->Lib.indexByte (l++10 :: r) 10=(l.length:Int)
 | [],r,_=>by simp[Lib.indexByte]
 | b :: l,r,h=>by
  have h1:b ≠ 10:=fun e=>h (by rw[e];simp)
  have ih:=idx_line l r (fun hm=>h (by simp[hm]))
  have hb:(b == 10)=false:=by simpa using h1
  show (if b == 10 then 0 else if Lib.indexByte (l++10 :: r) 10 == -1 then -1 else Lib.indexByte (l++10 :: r) 10+1)=_
  rw[ih,hb]
  have hn:((l.length:Int) == -1)=false:=by simp
  rw[hn]
  simp
theorem bytesOf_nm (s:Str):Lib.bytesOf (nm s)=s:=by
 unfold Lib.bytesOf nm
 rw[List.map_map]
 conv=>rhs;rw[<-List.map_id s]
 apply List.map_congr_left
 intro b _
 simp
theorem idx225 (b off c:Nat) (s:Str) (w:World) (h:PB w (some ⟨b,off,none⟩) c s):(callFunc 225 #[.slice (some ⟨b,off,none⟩) s.length c,.int .u8 10]).run Tryz.prog w=.ok (.value (.int .i64 (Lib.indexByte s 10))) w:=by
 rw[run_callFunc_extern Tryz.func225 (by kernel_rfl) (by kernel_rfl) (by kernel_rfl) (e:=Extern.BytealgIndexByte.indexByte) (by kernel_rfl),Lib.run_indexByteAt w ⟨b,off,none⟩ s.length c (nm s) (yX s) (fun i hi=>by rw[yV,PB.cell h i hi];simp[nm,List.getD_eq_getElem?_getD,List.getElem?_eq_getElem hi]),bytesOf_nm]
 rfl
theorem idx199 (b off c:Nat) (s:Str) (w:World) (h:PB w (some ⟨b,off,none⟩) c s):Calls Tryz.prog 199 #[.slice (some ⟨b,off,none⟩) s.length c,.int .u8 10] w fun e w'=>e=.returned (.int .i64 (Lib.indexByte s 10))/\w'=w:=by
 have h1:=idx225 b off c s w h
 obtain⟨n,hn⟩:∃ n,s.length=n:=⟨_,rfl⟩
 rw[hn] at h1 ⊢
 go_enter Tryz.func199,Tryz.ntmps199
 go_wp2
 go_ret
 exact⟨rfl,rfl⟩
def fL {σ:Type} (en:σ->Str) (L:List σ):Str:=L.flatMap fun s=>en s++[10]
theorem fL_cons {σ:Type} (en:σ->Str) (l:σ) (L:List σ):fL en (l :: L)=en l++10 :: fL en L:=by simp[fL]
def LineAt {σ:Type} (en:σ->Str) (L:List σ) (x:Value × σ) (W:World):Prop:=x.2 ∈ L/\∃ a,x.1=.slice a (en x.2++[10]).length (en x.2++[10]).length/\PB W a (en x.2++[10]).length (en x.2++[10])
theorem Fre.set {X B:Nat} {A:World} (h:Fre X A B) (v:Value):Fre X (A.setCell ⟨B,0,none⟩ v) B :=
 ⟨by simp[World.setCell];exact h.lt,h.ne,fun ⟨u,h1,h2⟩=>h.no ⟨u,by
  rw[<-h1]
  exact(World.cell?_of_block (a:=⟨X,0,none⟩) (Below.heap_setCell _ _ _ X (fun e=>h.ne e.symm))).symm,h2⟩⟩
theorem Fre.set2 {X B C:Nat} {A:World} (h:Fre X A B) (hC:Fre X A C) (v:Value):Fre X (A.setCell ⟨C,0,none⟩ v) B :=
 ⟨by simp[World.setCell];exact h.lt,h.ne,fun ⟨u,h1,h2⟩=>h.no ⟨u,by
  rw[<-h1]
  exact(World.cell?_of_block (a:=⟨X,0,none⟩) (Below.heap_setCell _ _ _ X (fun e=>hC.ne e.symm))).symm,h2⟩⟩
structure Ki (X Bs:Nat) (a:Option Addr) (w W:World):Prop where
 fs:Fre X W Bs
 kb:∀ p:Addr,a=some p->W.heap[p.block]? = w.heap[p.block]?/\Fre X W p.block/\p.block ≠ Bs
 x:X<W.heap.size
theorem Ki.kx {X Bs l:Nat} {a:Option Addr} {w A B:World} (h:Ki X Bs a w A) (hk:Kx X l A B) (hl:∀ p:Addr,a=some p->p.block ≠ l):Ki X Bs a w B :=
 ⟨h.fs.kx hk,fun p hp=>⟨(hk.blk _ (h.kb p hp).2.1.lt (h.kb p hp).2.1.ne (hl p hp) (h.kb p hp).2.1.no).trans (h.kb p hp).1,(h.kb p hp).2.1.kx hk,(h.kb p hp).2.2⟩,Nat.lt_of_lt_of_le h.x hk.size⟩
theorem Ki.set {X Bs:Nat} {a:Option Addr} {w A:World} (h:Ki X Bs a w A) (v:Value):Ki X Bs a w (A.setCell ⟨Bs,0,none⟩ v) :=
 ⟨h.fs.set v,fun p hp=>⟨(Below.heap_setCell _ _ _ _ (h.kb p hp).2.2).trans (h.kb p hp).1,(h.kb p hp).2.1.set2 h.fs v,(h.kb p hp).2.2⟩,by simp[World.setCell];exact h.x⟩
theorem sl60hm (b off n cap j m:Nat) (hj:j<=m) (hm:m<=cap) (w:World):(Instr.slice 60 (.slice (some ⟨b,off,none⟩) n cap) none (some (.int .i64 j)) (some (.int .i64 m))).run Tryz.prog w=.ok (.slice (some ⟨b,off,none⟩) j m) w:=by
 go_simp
set_option maxRecDepth 100000 in
theorem lines_all (n:Nat) (hn:1<=n) (w:World) (X Bs:Nat) (a:Option Addr) (c:Nat) {σ:Type} (en:σ->Str) (L:List σ) (hL:∀ l ∈ L,(10:UInt8) ∉ en l) (hP:PB w a c (fL en L)) (hl:(fL en L).length<=300000000) (hbs:Boxed w Bs 60 (.slice a (fL en L).length c)) (hki:Ki X Bs a w w) :
  SeqAll Bs Fence.wide n Tryz.prog 198 #[.pointer (some ⟨Bs,0,none⟩)] (fun x:Value × σ=>#[x.1]) (LineAt en L) (Kx X) (fun xs=>xs.map (·.2)=L) 400000000 w:=by
 intro l J W hW hwl hlW hJ hJ2 hY h0
 have K0:Kx X l w W:=⟨hW.os,hW.tape,hW.output,hW.size,fun k ⟨v,h1,h2⟩=>.inl ⟨v,by rw[<-h1];exact(hW.cell (p:=⟨X,0,none⟩) hki.x).symm,h2⟩,fun k h1 _ _ _=>hW.block k h1,fun hb k ⟨v,h1,h2⟩=>Nat.lt_of_lt_of_le (hb k ⟨v,by rw[<-h1];exact(hW.cell (p:=⟨X,0,none⟩) hki.x).symm,h2⟩) hW.size⟩
 have hBl:Bs ≠ l:=by have:=hki.fs.lt;omega
 have HPL:Hid (∀ p:Addr,a=some p->p.block ≠ l):=fun p hp=>by have:=(hki.kb p hp).2.1.lt;omega
 have HBX:Hid (Boxed W Bs 60 (.slice a (fL en L).length c)):=hid (boxed_kx hbs K0 hki.fs hBl)
 have HKI:Hid (Ki X Bs a w W):=hid (hki.kx K0 HPL.out)
 have HYY:Hid (∀ pre x W1,J pre W1->LineAt en L x W1->pre.length<400000000->YieldAt Fence.wide (n-1) Tryz.prog l #[x.1] W1 fun e W'=>e=.returned (.bool true)/\J (pre++[x]) W'/\Kx X l W1 W'):=fun pre x W1 h1 h2 h3=>hY pre x W1 h1 h2 h3
 have HJJ:Hid (∀ s A B,J s A->A.grownBy B none->J s B):=hJ
 have HJ2:Hid (∀ s A B,J s A->A.grownBy B (some Bs)->J s B):=hJ2
 have HJ0:Hid (J [] W):=h0
 have HSL:Hid ((fL en L).length<=300000000):=hl
 have HLN:=hid hL
 have HP:=hid hP
 clear hJ hJ2 hY h0 hbs K0 hl hki hL hP
 refine callsIn_of_wp Tryz.func198 rfl trivial ?_ rfl
 simp only[Tryz.ntmps198,List.size_toArray,List.length_cons,List.length_nil,Nat.reduceAdd,Nat.reduceSub,Array.replicate_succ,Array.replicate_zero,List.push_toArray,List.append_toArray,List.nil_append,List.cons_append]
 gi_wp2
 gi_loopg [] (fL en L).length (fun k wr=>∃ (pre:List (Value × σ)) (R:List σ) (a':Option Addr) (c':Nat),k=(fL en R).length/\Hid (pre.map (·.2)++R=L)/\Hid ((∀ l ∈ R,(10:UInt8) ∉ en l)/\(fL en R).length+pre.length<=300000000)/\Hid (PB w a' c' (fL en R))/\Hid (∀ p:Addr,a'=some p->∃ p0,a=some p0/\p.block=p0.block)/\Hid (Boxed wr Bs 60 (.slice a' (fL en R).length c'))/\Hid (Ki X Bs a w wr)/\Hid (J pre wr))
 case atStart=>exact⟨[],L,a,c,rfl,hid rfl,hid ⟨HLN.out,by simpa using HSL.out⟩,HP,hid (fun p hp=>⟨p,hp,rfl⟩),HBX,HKI,HJ0⟩
 case round =>
  obtain⟨pre,R,a',c',hk,HM,HRR,HPB,HSB,HBR,HKR,HJR⟩:=hrel
  have ks:wr.cell? ⟨Bs,0,none⟩=some (.slice a' (fL en R).length c'):=HBR.out.cell
  have fz:wr.frozen? ⟨Bs,0,none⟩=false:=HBR.out.frozen
  cases R with
  | nil =>
   have HE:Hid (pre.map (·.2)=L):=hid (by simpa using HM.out)
   have e0:(fL en ([] : List σ)).length=0:=rfl
   rw[e0] at ks
   clear hk e0
   gi_wp2
   go_end0
   exact⟨⟨_,rfl⟩,pre,HE.out,HJR.out⟩
  | cons ln R =>
   have hln:(10:UInt8) ∉ en ln:=HRR.out.1 ln (by simp)
   have hcons:=fL_cons en ln R
   obtain⟨N,hN⟩:∃ N,(fL en (ln :: R)).length=N:=⟨_,rfl⟩
   obtain⟨i,hi⟩:∃ i,(en ln).length=i:=⟨_,rfl⟩
   obtain⟨m,hm⟩:∃ m,(fL en R).length=m:=⟨_,rfl⟩
   have hNi:N=i+1+m:=by rw[<-hN,hcons,List.length_append,List.length_cons,hi,hm];omega
   have hNb:N+pre.length<=300000000:=by rw[<-hN];exact HRR.out.2
   have hpb:=HPB.out
   obtain⟨b,off,e1,_⟩:=hpb.at_ (by omega)
   subst e1
   have hcap:=hpb.capl
   rw[hN] at hcap
   obtain⟨p0,hp0,hbb⟩:=HSB.out _ rfl
   have HBK:Hid (∀ W1,Ki X Bs a w W1->W1.heap[b]? = w.heap[b]?/\w.heap.size<=w.heap.size):=fun W1 h1=>⟨by have:=(h1.kb p0 hp0).1;rw[<-hbb] at this;exact this,Nat.le_refl _⟩
   have hlt:∀ W1,Ki X Bs a w W1->b<W1.heap.size:=fun W1 h1=>by have:=(h1.kb p0 hp0).2.1.lt;rw[<-hbb] at this;exact this
   have hpx:∀ W1,Ki X Bs a w W1->∀ cc s,PB w (some ⟨b,off,none⟩) cc s->PB W1 (some ⟨b,off,none⟩) cc s:=fun W1 h1 cc s hs=>⟨hs.capl,fun h0=>by
    obtain⟨b1,o1,e1,e2,e3⟩:=hs.at_ h0
    cases e1
    refine⟨b,off,rfl,hlt W1 h1,fun q hq j v hv=>?_⟩
    rw[World.cell?_of_block (a:=⟨b,off+q*1+j,none⟩) (HBK.out W1 h1).1]
    exact e3 q hq j v hv,hs.nil⟩
   have C22:=idx199 b off c' (fL en (ln :: R)) wr (hpx wr HKR.out _ _ hpb)
   rw[hcons,idx_line (en ln) (fL en R) hln,<-hcons,hN,hi] at C22
   rw[hN] at ks
   have HP2:Hid (PB w (adX 1 (some ⟨b,off,none⟩) c' (i+1)) (c'-(i+1)) (fL en R)):=hid (by
    have:=hpb.from (i+1) (by omega)
    rw[hcons,show (en ln++10 :: fL en R).drop (i+1)=fL en R by rw[show en ln++10 :: fL en R=(en ln++[10])++fL en R by simp,List.drop_append_of_le_length (by simp;omega),List.drop_of_length_le (by simp;omega),List.nil_append]] at this
    exact this)
   have HSB2:Hid (∀ p:Addr,adX 1 (some ⟨b,off,none⟩) c' (i+1)=some p->∃ p0,a=some p0/\p.block=p0.block):=fun p hp=>by
    refine⟨p0,hp0,?_⟩
    unfold adX at hp
    split at hp
    ·cases hp;exact hbb
    ·simp only[Option.map_some,Option.some.injEq,yV] at hp;subst hp;exact hbb
   obtain⟨ra,hra⟩:∃ r,adX 1 (some ⟨b,off,none⟩) c' (i+1)=r:=⟨_,rfl⟩
   obtain⟨rc,hrc⟩:∃ r,c'-(i+1)=r:=⟨_,rfl⟩
   rw[hra,hrc] at HP2
   rw[hra] at HSB2
   have hs1:∀ w:World,(Instr.slice 60 (.slice (some ⟨b,off,none⟩) N c') none (some (.int .i64 ((i:Int)+1))) none).run Tryz.prog w=.ok (.slice (some ⟨b,off,none⟩) (i+1) c') w:=fun w=>by
    have:=sl60h b off N c' (i+1) (by omega) w
    push_cast at this
    exact this
   have hs2:∀ w:World,(Instr.slice 60 (.slice (some ⟨b,off,none⟩) N c') (some (.int .i64 ((i:Int)+1))) none none).run Tryz.prog w=.ok (.slice ra m rc) w:=fun w=>by
    have:=sl60l (some ⟨b,off,none⟩) N c' (i+1) (by omega) w
    rw[hra,hrc,show N-(i+1)=m by omega] at this
    push_cast at this
    exact this
   have hs3:∀ w:World,(Instr.slice 60 (.slice (some ⟨b,off,none⟩) (i+1) c') none (some (.int .i64 ((i:Int)+1))) (some (.int .i64 ((i:Int)+1)))).run Tryz.prog w=.ok (.slice (some ⟨b,off,none⟩) (i+1) (i+1)) w:=fun w=>by
    have:=sl60hm b off (i+1) c' (i+1) (i+1) (Nat.le_refl _) (by omega) w
    push_cast at this
    exact this
   have HLA:Hid (∀ W1,Ki X Bs a w W1->LineAt en L (.slice (some ⟨b,off,none⟩) (i+1) (i+1),ln) W1):=fun W1 h1=>by
    have ht:=hpx W1 h1 _ _ (hpb.take (i+1))
    rw[hcons,show (en ln++10 :: fL en R).take (i+1)=en ln++[10] by rw[show en ln++10 :: fL en R=(en ln++[10])++fL en R by simp,List.take_append_of_le_length (by simp;omega),List.take_of_length_le (by simp;omega)]] at ht
    refine⟨by rw[<-HM.out];simp,some ⟨b,off,none⟩,by simp[hi],?_⟩
    exact⟨Nat.le_refl _,ht.at_,fun e=>by cases e⟩
   have hNI:(0:Int)<(N:Int):=by omega
   have hiI:(0:Int)<=(i:Int):=by omega
   have hi9:i<=300000000:=by omega
   have hwr:IntKind.i64.wrap ((i:Int)+1)=(i:Int)+1:=by rw[IntKind.wrap_i64];omega
   have HM2:Hid ((pre++[((Value.slice (some ⟨b,off,none⟩) (i+1) (i+1),ln):Value × σ)]).map (·.2)++R=L):=hid (by rw[<-HM.out];simp)
   have HRR2:Hid ((∀ l ∈ R,(10:UInt8) ∉ en l)/\(fL en R).length+(pre++[((Value.slice (some ⟨b,off,none⟩) (i+1) (i+1),ln):Value × σ)]).length<=300000000):=hid ⟨fun x hx=>HRR.out.1 x (by simp[hx]),by rw[hm,List.length_append,List.length_singleton];omega⟩
   have HBR2:=HBR
   rw[hN] at HBR2
   have HMM:=hid hm
   have hgk:gk=N:=hk.trans hN
   have HNI:=hid hNi
   clear hpb hcons hN hi hm hbb hpx hlt hln HBR hk hNi
   gi_wp2_with (refine⟨trivial,?_⟩;gi_at_call 199;refine(callsIn_wide.2 C22).mono ?_;clear C22;rintro ev w1 ⟨rfl,rfl⟩)
   refine wpIn_wide.2 ?_
   have hS0:w1.drew.cell? ⟨Bs,0,none⟩=some (.slice (some ⟨b,off,none⟩) N c'):=ks
   have hfz:w1.drew.frozen? ⟨Bs,0,none⟩=false:=fz
   refine Xx (fun w'=>w'.cell? ⟨Bs,0,none⟩=some (.slice (some ⟨b,off,none⟩) N c')) 9 (by kernel_rfl) ?_
   have HJd:Hid (J pre w1.drew):=hid (HJJ.out _ _ _ HJR.out (grown_drewN1 w1))
   have HB4:Hid (Boxed w1.drew Bs 60 (.slice (some ⟨b,off,none⟩) N c')):=HBR2
   have HK4:Hid (Ki X Bs a w w1.drew):=hid ⟨⟨HKR.out.fs.lt,HKR.out.fs.ne,HKR.out.fs.no⟩,fun p hp=>⟨(HKR.out.kb p hp).1,⟨(HKR.out.kb p hp).2.1.lt,(HKR.out.kb p hp).2.1.ne,(HKR.out.kb p hp).2.1.no⟩,(HKR.out.kb p hp).2.2⟩,HKR.out.x⟩
   clear ks fz HBR2 HKR HJR
   generalize w1.drew=w2 at hS0 hfz HJd HB4 HK4 ⊢
   iterate 9
    refine Yq (v:=?_) hS0 ?_ ?_
    rotate_left
    ·intro w' s0;go_simp;first | rfl | (simp only[hwr,hs1,hs2,Result.andThen_ok];rfl)
    try simp only[Act.put,sL]
   refine xW (i:=9) (by kernel_rfl) (k9 rfl (fun KK hKK=>?_))
   go_simp
   refine hKK.out _ _ (.inl rfl) ?_
   clear hKK KK
   try simp only[Act.put,sL]
   refine doneU (by kernel_rfl) ?_ _
   have HJ4:Hid (J pre (w2.setCell ⟨Bs,0,none⟩ (.slice ra m rc))):=hid (HJ2.out _ _ _ HJd.out (grownBy_setCell' w2 Bs _))
   have HBX4:Hid (Boxed (w2.setCell ⟨Bs,0,none⟩ (.slice ra m rc)) Bs 60 (.slice ra m rc)):=hid (Boxed.set _ HB4.out)
   have HK5:Hid (Ki X Bs a w (w2.setCell ⟨Bs,0,none⟩ (.slice ra m rc))):=hid (HK4.out.set _)
   generalize w2.setCell ⟨Bs,0,none⟩ (.slice ra m rc)=W4 at HJ4 HBX4 HK5 ⊢
   simp only[Exit.then]
   gi_wp2
   obtain⟨fn_,tmps,assign,body,hy,hRr⟩:=HYY.out pre (.slice (some ⟨b,off,none⟩) (i+1) (i+1),ln) W4 HJ4.out (HLA.out W4 HK5.out) (by omega)
   have hRr2:Hid (RoundIn Fence.wide (n-1) Tryz.prog l fn_ tmps assign body W4 fun e W'=>e=.returned (.bool true)/\J (pre++[((.slice (some ⟨b,off,none⟩) (i+1) (i+1),ln):Value × σ)]) W'/\Kx X l W4 W'):=hid hRr
   clear hRr
   simp only[hy,go_sem]
   gi_wp2
   refine hRr2.out.mono ?_
   rintro e1 W5 ⟨rfl,hJ5,hk5⟩
   have HBX5:Hid (Boxed W5 Bs 60 (.slice ra (fL en R).length rc)):=hid (by rw[HMM.out];exact boxed_kx HBX4.out hk5 HK5.out.fs hBl)
   have HK6:Hid (Ki X Bs a w W5):=hid (HK5.out.kx hk5 HPL.out)
   have HJ5:=hid hJ5
   clear hJ5 hk5
   gi_wp2
   gi_roundg (fL en R).length
   case measure=>have:=HNI.out;rw[HMM.out,hgk];omega
   case rel=>exact⟨_,R,ra,rc,rfl,HM2,HRR2,HP2,HSB2,HBX5,HK6,HJ5⟩
end Go.Proofs.YtgliaiemkfopeaaGreatDoor.K
namespace Go.Proofs.YtgliaiemkfopeaaGreatDoor.K
open Go.RowKit
theorem Tryz.results49:Tryz.f49.results=#[.tmp 4]:=by kernel_rfl
theorem Tryz.results201:Tryz.f201.results=#[.cell 2 89]:=by kernel_rfl
def okG (p:Per) (tx:Str):Prop:=okP p/\tx.length<=2000/\∀ c ∈ tx,c ≠ 10/\c ≠ 0
theorem asc2:Asc ⟨#[10,0]⟩:=by
 intro j h
 have h':j<2:=h
 match j,h' with
 | 0,_=>show (10:UInt8).toNat<128;decide
 | 1,_=>show (0:UInt8).toNat<128;decide
theorem no_any (tx:Str):kX ⟨tx.toArray⟩ ⟨#[10,0]⟩ ↔ ¬ ∀ c ∈ tx,c ≠ 10/\c ≠ 0:=by
 unfold kX
 simp only[List.mem_cons,List.not_mem_nil,or_false]
 constructor
 ·rintro⟨x,h1,h2⟩ h
  have:=h x (by simpa using h1)
  rcases h2 with rfl | rfl
  ·exact this.1 rfl
  ·exact this.2 rfl
 ·intro h
  by_cases h2:∃ c ∈ tx,c=10 ∨ c=0
  ·obtain⟨c,h3,h4⟩:=h2
   exact⟨c,by simpa using h3,h4⟩
  ·exact absurd (fun c hc=>⟨fun e=>h2 ⟨c,hc,.inl e⟩,fun e=>h2 ⟨c,hc,.inr e⟩⟩) h
theorem canLog_any (p:Per) (tx:Str) (hl:tx.length<=1000000) (w:World):Calls Tryz.prog 49 #[.agg (xq p),sV tx] w fun e w'=>BIs (okG p tx) e/\Below w.heap.size w w':=by
 obtain⟨w1,hw1⟩:∃ w1,w.alloc (.cells (xq p) 38)=w1:=⟨_,rfl⟩
 have hb1:Below w.heap.size w w1:=by rw[<-hw1];exact(Below.refl _ _).alloc (Nat.le_refl _) _
 have hip:=isPerson_any p w1
 have hca:=fun W=>ZQ ⟨tx.toArray⟩ ⟨#[10,0]⟩ (by decide) (by decide) asc2 (by simpa [ByteArray.size] using hl) W
 obtain⟨n,hn⟩:∃ n,tx.length=n:=⟨_,rfl⟩
 have hS:(⟨tx.toArray⟩:ByteArray).size=n:=by rw[<-hn];simp[ByteArray.size]
 obtain⟨S,HS⟩:=nm_ (⟨tx.toArray⟩:ByteArray)
 have HNA:Hid (kX S ⟨#[10,0]⟩ ↔ ¬ ∀ c ∈ tx,c ≠ 10/\c ≠ 0):=hid (by rw[<-HS.out];exact no_any tx)
 rw[HS.out] at hS hca
 obtain⟨P,HPV⟩:∃ P:List Value,Hid (xq p=P.toArray):=⟨(xq p).toList,hid (by simp)⟩
 have HP4:Hid ((Tryz.prog.info? 38).map (·.size)=some P.length):=hid (by rw[show P.length=4 by rw[<-List.size_toArray,<-HPV.out];rfl];kernel_rfl)
 have HR:Hid (w1.rangeAt w.heap.size 0 P):=hid (by rw[<-hw1,HPV.out];exact zy (heap_alloc_new _ _))
 rw[HPV.out] at hw1 hip ⊢
 unfold sV
 rw[HS.out]
 have HB1:=hid hb1
 have HN:=hid hn
 clear hb1 hn hl
 by_cases h1:okP p
 ·have hp2:Calls Tryz.prog 82 #[.agg P.toArray] w1 fun e w'=>e=.returned (.bool true)/\Below w1.heap.size w1 w':=hip.mono fun e w' ⟨h,hb⟩=>⟨by rcases kJ h with ⟨_,h⟩ | ⟨h,_⟩;exact h;exact absurd h1 h,hb⟩
  have H1:=hid h1
  clear hip h1
  by_cases h2:n<=2000
  ·have h2i:(n:Int)<=2000:=by omega
   have H2:=hid h2
   by_cases h3:∀ c ∈ tx,c ≠ 10/\c ≠ 0
   ·have hc2:∀ W,Calls Tryz.prog 83 #[.string S,.string ⟨#[10,0]⟩] W fun e w'=>e=.returned (.bool false)/\Below W.heap.size W w':=fun W=>(hca W).mono fun e w' ⟨⟨b,h,hb1⟩,hb⟩=>⟨by cases b with | false=>exact h | true=>exact absurd h3 (HNA.out.1 (hb1.1 rfl)),hb⟩
    have H3:=hid h3
    clear hca h3
    go_enter Tryz.func49,Tryz.ntmps49
    go_wp2_with (first
     | (refine wpList_load_mid rfl 38 (.tmp 2) rfl _ 0 rfl P _ HR.out Tryz.underlying38 rfl HP4.out ?_;go_frame)
     | (go_at_call 82;refine hp2.mono ?_;rintro e w2 ⟨rfl,hb2⟩;have HB2:=hid (HB1.out.trans (hb2.mono HB1.out.size));clear hb2)
     | (go_at_call 83;refine(hc2 _).mono ?_;rintro e w3 ⟨rfl,hb3⟩;have HB3:=hid (HB2.out.trans (hb3.mono HB2.out.size));clear hb3))
    exact bodyPost_ret (results_tmp Tryz.results49 _ _ _) rfl ⟨X8 ⟨H1.out,by rw[HN.out];exact H2.out,H3.out⟩,HB3.out⟩
   ·have hc2:∀ W,Calls Tryz.prog 83 #[.string S,.string ⟨#[10,0]⟩] W fun e w'=>e=.returned (.bool true)/\Below W.heap.size W w':=fun W=>(hca W).mono fun e w' ⟨⟨b,h,hb1⟩,hb⟩=>⟨by cases b with | true=>exact h | false=>exact absurd (hb1.2 (HNA.out.2 h3)) (by decide),hb⟩
    have H3:=hid h3
    clear hca h3
    go_enter Tryz.func49,Tryz.ntmps49
    go_wp2_with (first
     | (refine wpList_load_mid rfl 38 (.tmp 2) rfl _ 0 rfl P _ HR.out Tryz.underlying38 rfl HP4.out ?_;go_frame)
     | (go_at_call 82;refine hp2.mono ?_;rintro e w2 ⟨rfl,hb2⟩;have HB2:=hid (HB1.out.trans (hb2.mono HB1.out.size));clear hb2)
     | (go_at_call 83;refine(hc2 _).mono ?_;rintro e w3 ⟨rfl,hb3⟩;have HB3:=hid (HB2.out.trans (hb3.mono HB2.out.size));clear hb3))
    exact bodyPost_ret (results_tmp Tryz.results49 _ _ _) rfl ⟨yj (fun h=>H3.out h.2.2),HB3.out⟩
  ·have h2i:¬ (n:Int)<=2000:=by omega
   have H2:=hid h2
   clear hca
   go_enter Tryz.func49,Tryz.ntmps49
   go_wp2_with (first
    | (refine wpList_load_mid rfl 38 (.tmp 2) rfl _ 0 rfl P _ HR.out Tryz.underlying38 rfl HP4.out ?_;go_frame)
    | (go_at_call 82;refine hp2.mono ?_;rintro e w2 ⟨rfl,hb2⟩;have HB2:=hid (HB1.out.trans (hb2.mono HB1.out.size));clear hb2))
   exact bodyPost_ret (results_tmp Tryz.results49 _ _ _) rfl ⟨yj (fun h=>H2.out (by rw[<-HN.out];exact h.2.1)),HB2.out⟩
 ·have hp2:Calls Tryz.prog 82 #[.agg P.toArray] w1 fun e w'=>e=.returned (.bool false)/\Below w1.heap.size w1 w':=hip.mono fun e w' ⟨h,hb⟩=>⟨by rcases kJ h with ⟨h,_⟩ | ⟨_,h⟩;exact absurd h h1;exact h,hb⟩
  have H1:=hid h1
  clear hip h1 hca
  go_enter Tryz.func49,Tryz.ntmps49
  go_wp2_with (first
   | (refine wpList_load_mid rfl 38 (.tmp 2) rfl _ 0 rfl P _ HR.out Tryz.underlying38 rfl HP4.out ?_;go_frame)
   | (go_at_call 82;refine hp2.mono ?_;rintro e w2 ⟨rfl,hb2⟩;have HB2:=hid (HB1.out.trans (hb2.mono HB1.out.size));clear hb2))
  exact bodyPost_ret (results_tmp Tryz.results49 _ _ _) rfl ⟨yj (fun h=>H1.out h.1),HB2.out⟩
theorem trim_any (s:Str) (hl:s.length<=1000000000) (w:World):Calls Tryz.prog 168 #[sV (s++[10]),.string ⟨#[10]⟩] w fun e w'=>e=.returned (sV s)/\w'=w:=by
 have h:=Any.strings_TrimSuffix Tryz.lays102 ⟨(s++[10]).toArray⟩ ⟨#[10]⟩ w (by simp[ByteArray.size];omega)
 have e:Lib.trimSuffix (s++[10]) [10]=s:=by
  unfold Lib.trimSuffix Lib.hasSuffix
  rw[if_pos (by rw[List.isSuffixOf_iff_suffix];exact⟨s,rfl⟩)]
  simp
 refine h.mono ?_
 rintro e w' ⟨rfl,rfl⟩
 refine⟨?_,rfl⟩
 show Ending.returned (.string ⟨(Lib.trimSuffix (s++[10]) [10]).toArray⟩)=_
 rw[e]
 rfl
theorem idOf_any (x:List Int) (hx:IdW x) (w:World):Calls Tryz.prog 201 #[sV (yW x)] w fun e w'=>e=.returned (.agg (row .u8 x).toArray)/\Below w.heap.size w w':=by
 obtain⟨Z,HZ⟩:=ri zQ rfl
 have HZ0:Hid (Z=z89):=hid (by rw[<-HZ.out.e];rfl)
 have HB0:Hid (Below w.heap.size w (w.alloc (.cells Z 89))):=hid ((Below.refl _ w).alloc (Nat.le_refl _) _)
 have hps:=parse_short (yW x) (w.alloc (.cells Z 89)) (by rw[x7,hx.1];omega)
 have HPS:Hid (Calls Tryz.prog 227 #[sV (yW x)] (w.alloc (.cells Z 89)) fun e w'=>(∃ ev,e=.returned (.tuple #[.agg (row .u8 x).toArray,ev]))/\Below (w.alloc (.cells Z 89)).heap.size (w.alloc (.cells Z 89)) w'):=hps.mono fun e w' ⟨hb,fr,ev,h1,h2⟩=>⟨⟨ev,by rw[h1,pid_back x fr hx.1 hx.2 h2]⟩,hb⟩
 obtain⟨R,HR⟩:=ri x hx.1
 have HB1:Hid (∀ w1,Below (w.alloc (.cells Z 89)).heap.size (w.alloc (.cells Z 89)) w1->w1.heap[w.heap.size]? = some (.cells Z 89)/\(w1.alloc (.cells R 89)).heap[w.heap.size]? = some (.cells Z 89)/\(w1.alloc (.cells R 89)).heap[w1.heap.size]? = some (.cells R 89)/\((w1.alloc (.cells R 89)).setRow w.heap.size R).heap[w.heap.size]? = some (.cells R 89)/\Below w.heap.size w ((w1.alloc (.cells R 89)).setRow w.heap.size R)):=fun w1 hb=>by
  have q1:w1.heap[w.heap.size]? = some (.cells Z 89):=(hb.block _ (by simp)).trans (heap_alloc_new _ _)
  have q2:(w1.alloc (.cells R 89)).heap[w.heap.size]? = some (.cells Z 89):=(heap_alloc_old _ _ (z7 q1)).trans q1
  have hbb:Below w.heap.size w (w1.alloc (.cells R 89)):=(HB0.out.trans (hb.mono (by simp))).alloc (by have:=z7 q1;omega) _
  exact⟨q1,q2,heap_alloc_new _ _,setRow_heap _ _ _ _ _ _ q2,below_setRow hbb (Nat.le_refl _) _⟩
 rw[HR.out.e] at HPS ⊢
 rw[HZ0.out] at HPS
 unfold sV at HPS ⊢
 unfold z89 at HPS
 obtain⟨S,HS⟩:=nm_ (⟨(yW x).toArray⟩:ByteArray)
 rw[HS.out] at HPS ⊢
 clear hps hx
 go_enter Tryz.func201,Tryz.ntmps201
 go_wp2_with (first
  | (go_at_call 227;refine HPS.out.mono ?_;rintro e w1 ⟨⟨ev,rfl⟩,hb⟩;obtain⟨q1,q2,q3,q4,q5⟩:=HB1.out w1 (by rw[HZ0.out];exact hb);have Q2:=hid q2;have Q3:=hid q3;have Q4:=hid q4;have Q5:=hid q5;clear hb q1 q2 q3 q4 q5)
  | (refine zq rfl 89 (.tmp 3) (.tmp 8) rfl _ R rfl rfl HR.out.i HR.out.z HR.out.o ?_;go_frame)
  | (refine zu rfl 89 (.tmp 3) rfl _ R 89 (0,0) _ rfl Q3.out Tryz.underlying89 rfl HR.out.i ?_;go_frame)
  | (refine wpList_store_row rfl 89 (.tmp 2) (.tmp 10) rfl w.heap.size R rfl rfl 89 _ Q2.out HR.out.i (by rw[<-HR.out.z,<-HZ.out.e]) HR.out.o ?_))
 refine bodyPost_ret (qW Tryz.results201 _ _ w.heap.size R.toList _ rfl (zy (by simpa using Q4.out)) Tryz.underlying89 rfl (by simpa using HR.out.i)) rfl ⟨?_,Q5.out⟩
 simp
theorem Tryz.results202:Tryz.f202.results=#[.cell 2 129]:=by kernel_rfl
theorem bd129 (x y:List Int) (hx:x.length=20) (hy:y.length=20) (p:Per) (t:ByteArray) (w:World):(Instr.build 129 #[(0,.agg (row .u8 x).toArray),(1,.agg (row .u8 y).toArray),(2,.agg (xq p)),(3,.string t)]).run Tryz.prog w=.ok (.agg (row .u8 x++(row .u8 y++[Value.string ⟨p.name.toArray⟩,Value.string ⟨p.mail.toArray⟩,Value.int .i64 p.time,Value.int .i64 p.zone,Value.string t])).toArray) w:=by
 obtain⟨pn,pm,pt,pz⟩:=p
 obtain⟨a0,a1,a2,a3,a4,a5,a6,a7,a8,a9,a10,a11,a12,a13,a14,a15,a16,a17,a18,a19,rfl⟩:=yZ x hx
 obtain⟨b0,b1,b2,b3,b4,b5,b6,b7,b8,b9,b10,b11,b12,b13,b14,b15,b16,b17,b18,b19,rfl⟩:=yZ y hy
 unfold xq
 simp only
 generalize (⟨pn.toArray⟩:ByteArray)=P1
 generalize (⟨pm.toArray⟩:ByteArray)=P2
 show _=_
 kernel_rfl
theorem cutB (s sep:Str) (hs:s.length<=1000000) (x y:Str) (b:Bool) (h:Lib.cut s sep=(x,y,b)) (w:World) (hm:Mx w):Calls Tryz.prog 200 #[sV s,sV sep] w fun e w'=>e=.returned (.tuple #[sV x,sV y,.bool b])/\Below w.heap.size w w':=by
 have h1:=X9 s sep w hs hm
 rw[h] at h1
 exact h1.mono fun e w' ⟨h2,q,h3⟩=>⟨h2,by rw[h3];exact zv _ _ q⟩
theorem readP (p:Per) (hp:okP p) (w:World) (he:Ers w) (hm:Mx w):Calls Tryz.prog 228 #[sV (x8 p)] w fun e w'=>e=.returned (.agg (xq p))/\Below w.heap.size w w':=by
 have hl:(x8 p).length<=1000000:=by
  obtain⟨h1,h2,⟨h3,h4⟩,h5,h6⟩:=hp
  have:=h1.1
  have:=h2.1
  have:=uV p.time.toNat (by omega)
  unfold x8
  simp[xk,two]
  omega
 exact(personOf_any (x8 p) hl w he hm).mono fun e w' ⟨hb,q,h1,h2⟩=>⟨by rw[h1,pp_back p hp q h2],hb⟩
theorem hex_isH (x:List Int) (hx:IdW x):∀ c ∈ yW x,isH c:=fun c hc=>by
 unfold yW Hx.hexOf at hc
 obtain⟨n,hn,rfl⟩:=List.mem_map.1 hc
 obtain⟨z,hz,hn⟩:=List.mem_flatMap.1 hn
 have hb:=hx.2 z hz
 have key:∀ d:Int,0<=d->d<16->isH (UInt8.ofNat (Hx.dig d).toNat):=fun d h1 h2=>by
  obtain⟨k,rfl⟩:∃ k:Nat,d=k:=⟨d.toNat,by omega⟩
  have hk:k<16:=by omega
  match k,hk with
  | 0,_=>unfold isH;decide
  | 1,_=>unfold isH;decide
  | 2,_=>unfold isH;decide
  | 3,_=>unfold isH;decide
  | 4,_=>unfold isH;decide
  | 5,_=>unfold isH;decide
  | 6,_=>unfold isH;decide
  | 7,_=>unfold isH;decide
  | 8,_=>unfold isH;decide
  | 9,_=>unfold isH;decide
  | 10,_=>unfold isH;decide
  | 11,_=>unfold isH;decide
  | 12,_=>unfold isH;decide
  | 13,_=>unfold isH;decide
  | 14,_=>unfold isH;decide
  | 15,_=>unfold isH;decide
  | k+16,h=>exact absurd h (by omega)
 simp only[List.mem_cons,List.not_mem_nil,or_false] at hn
 rcases hn with rfl | rfl
 ·exact key _ (by omega) (by omega)
 ·exact key _ (by omega) (by omega)
theorem hex_no (x:List Int) (hx:IdW x) (c:UInt8) (hc:¬ isH c):c ∉ yW x:=fun h=>hc (hex_isH x hx c h)
def ewS (e:Le):Str:=yW e.old++32 :: (yW e.new++32 :: (x8 e.who++9 :: e.text))
theorem two_no (n:Nat) (h:n<100) (c:UInt8) (hc:c=9 ∨ c=10):c ∉ two n:=by
 have h1:n / 10<10:=by omega
 have h2:n % 10<10:=by omega
 have key:∀ d,d<10->UInt8.ofNat (48+d) ≠ 9/\UInt8.ofNat (48+d) ≠ 10:=fun d hd=>by
  refine⟨fun e=>?_,fun e=>?_⟩ <;>
  ·have:=congrArg UInt8.toNat e
   rw[UInt8.toNat_ofNat'] at this
   simp at this
   omega
 unfold two
 simp only[List.mem_cons,List.not_mem_nil,or_false,not_or]
 rcases hc with rfl | rfl
 ·exact⟨fun e=>(key _ h1).1 e.symm,fun e=>(key _ h2).1 e.symm⟩
 ·exact⟨fun e=>(key _ h1).2 e.symm,fun e=>(key _ h2).2 e.symm⟩
theorem zone_no (z:Int) (h1 : -840<=z) (h2:z<=840) (c:UInt8) (hc:c=9 ∨ c=10):c ∉ xk z:=by
 unfold xk
 intro h
 rcases List.mem_cons.1 h with h | h
 ·split at h <;> · rcases hc with rfl | rfl <;> exact absurd h (by decide)
 ·rcases List.mem_append.1 h with h | h
  ·exact two_no _ (by omega) c hc h
  ·exact two_no _ (by omega) c hc h
theorem digits_no (n:Nat) (c:UInt8) (hc:c=9 ∨ c=10):c ∉ Lib.decDigits n:=fun h=>by
 have:=(dig_val n).2.1 c h
 unfold digS at this
 rcases hc with rfl | rfl <;> simp at this
theorem tail_no (p:Per) (hp:okP p) (c:UInt8) (hc:c=9 ∨ c=10):c ∉ (32 :: (Lib.decDigits p.time.toNat++32 :: xk p.zone)):=fun h=>by
 have h32:¬ c=32:=by rcases hc with rfl | rfl <;> decide
 rcases List.mem_cons.1 h with h | h
 ·exact h32 h
 rcases List.mem_append.1 h with h | h
 ·exact digits_no _ c hc h
 rcases List.mem_cons.1 h with h | h
 ·exact h32 h
 ·exact zone_no _ hp.2.2.2.1 hp.2.2.2.2 c hc h
set_option maxHeartbeats 1000000 in
theorem entryOf_any (e:Le) (he:uy e) (hp:okP e.who) (ht:e.text.length<=100000) (w:World) (her:Ers w) (hmx:Mx w):Calls Tryz.prog 202 #[sV (ewS e)] w fun r w'=>r=.returned (.agg (qv e).toArray)/\Below w.heap.size w w':=by
 obtain⟨G,HG⟩:=nm_ w.heap.size
 have hpl:(x8 e.who).length<=300:=by
  obtain⟨h1,h2,⟨h3,h4⟩,h5,h6⟩:=hp
  have:=h1.1
  have:=h2.1
  have:=uV e.who.time.toNat (by omega)
  unfold x8
  simp[xk,two]
  omega
 have hl1:(yW e.old).length=40:=by rw[x7,he.1.1]
 have hl2:(yW e.new).length=40:=by rw[x7,he.2.1]
 obtain⟨t3,ht3⟩:∃ t,32 :: (Lib.decDigits e.who.time.toNat++32 :: xk e.who.zone)=t:=⟨_,rfl⟩
 obtain⟨t2,ht2⟩:∃ t,e.who.name++32 :: 60 :: e.who.mail=t:=⟨_,rfl⟩
 have hpb:x8 e.who=t2++62 :: t3:=by rw[<-ht2,<-ht3];unfold x8;simp
 have hn9:(9:UInt8) ∉ t3:=by rw[<-ht3];exact tail_no _ hp _ (.inl rfl)
 have hn62:(62:UInt8) ∉ t2:=by
  rw[<-ht2]
  intro h
  rcases List.mem_append.1 h with h | h
  ·exact(hp.1.2.1 62 h).2.1 rfl
  ·simp only[List.mem_cons] at h
   rcases h with h | h | h
   ·exact absurd h (by decide)
   ·exact absurd h (by decide)
   ·exact(hp.2.1.2.1 62 h).2.1 rfl
 have k1:Lib.cut (ewS e) [32]=(yW e.old,yW e.new++32 :: (x8 e.who++9 :: e.text),true):=vQ _ _ _ (hex_no _ he.1 _ (by unfold isH;decide))
 have k2:Lib.cut (yW e.new++32 :: (x8 e.who++9 :: e.text)) [32]=(yW e.new,x8 e.who++9 :: e.text,true):=vQ _ _ _ (hex_no _ he.2 _ (by unfold isH;decide))
 have k3:Lib.cut (x8 e.who++9 :: e.text) [62]=(t2,t3++9 :: e.text,true):=by rw[hpb,List.append_assoc];exact vQ _ _ _ hn62
 have k4:Lib.cut (t3++9 :: e.text) [9]=(t3,e.text,true):=vQ _ _ _ hn9
 have hlw:(ewS e).length<=200000:=by unfold ewS;simp only[List.length_append,List.length_cons];omega
 have hlt:t3.length<=300:=by have:=congrArg List.length hpb;simp only[List.length_append,List.length_cons] at this;omega
 have c1:=fun W hm=>cutB (ewS e) [32] (by omega) _ _ _ k1 W hm
 have c2:=fun W hm=>cutB _ [32] (by simp only[List.length_append,List.length_cons];omega) _ _ _ k2 W hm
 have c3:=fun W hm=>cutB _ [62] (by simp only[List.length_append,List.length_cons];omega) _ _ _ k3 W hm
 have c4:=fun W hm=>cutB _ [9] (by simp only[List.length_append,List.length_cons];omega) _ _ _ k4 W hm
 have d1:=fun W=>idOf_any e.old he.1 W
 have d2:=fun W=>idOf_any e.new he.2 W
 have d3:=fun W h1 h2=>readP e.who hp W h1 h2
 obtain⟨S0,H0⟩:=nm_ (⟨(ewS e).toArray⟩:ByteArray)
 obtain⟨A0,HA0⟩:=nm_ (⟨(yW e.old).toArray⟩:ByteArray)
 obtain⟨S1,H1⟩:=nm_ (⟨(yW e.new++32 :: (x8 e.who++9 :: e.text)).toArray⟩:ByteArray)
 obtain⟨A1,HA1⟩:=nm_ (⟨(yW e.new).toArray⟩:ByteArray)
 obtain⟨S2,H2⟩:=nm_ (⟨(x8 e.who++9 :: e.text).toArray⟩:ByteArray)
 obtain⟨A2,HA2⟩:=nm_ (⟨t2.toArray⟩:ByteArray)
 obtain⟨S3,H3⟩:=nm_ (⟨(t3++9 :: e.text).toArray⟩:ByteArray)
 obtain⟨A3,HA3⟩:=nm_ (⟨t3.toArray⟩:ByteArray)
 obtain⟨S4,H4⟩:=nm_ (⟨e.text.toArray⟩:ByteArray)
 have HAA:Hid ((A2 ++ ⟨#[62]⟩)++A3=⟨(x8 e.who).toArray⟩):=hid (by
  rw[<-HA2.out,<-HA3.out,show (⟨#[62]⟩:ByteArray)=⟨[62].toArray⟩ from rfl,yw,yw,hpb]
  simp)
 have z2:A2.size<=300:=by rw[<-HA2.out];have:=congrArg List.length hpb;simp only[List.length_append,List.length_cons] at this;simp[ByteArray.size];omega
 have z3:A3.size<=300:=by rw[<-HA3.out];simpa [ByteArray.size] using hlt
 unfold sV at c1 c2 c3 c4 d1 d2 d3 ⊢
 rw[H0.out,HA0.out,H1.out] at c1
 rw[H1.out,HA1.out,H2.out] at c2
 rw[H2.out,HA2.out,H3.out] at c3
 rw[H3.out,HA3.out,H4.out] at c4
 rw[HA0.out] at d1
 rw[HA1.out] at d2
 rw[<-HAA.out] at d3
 rw[H0.out]
 obtain⟨X,hX⟩:∃ X,(row .u8 e.old).toArray=X:=⟨_,rfl⟩
 obtain⟨Y,hY⟩:∃ X,(row .u8 e.new).toArray=X:=⟨_,rfl⟩
 obtain⟨P,hP⟩:∃ X,xq e.who=X:=⟨_,rfl⟩
 obtain⟨E,hE⟩:∃ X,(qv e).toArray=X:=⟨_,rfl⟩
 have HBD:Hid (∀ W:World,(Instr.build 129 #[(0,.agg X),(1,.agg Y),(2,.agg P),(3,.string S4)]).run Tryz.prog W=.ok (.agg E) W):=fun W=>by rw[<-hX,<-hY,<-hP,<-hE,<-H4.out];exact bd129 e.old e.new he.1.1 he.2.1 e.who _ W
 have HIE:Hid ((Tryz.prog.info? 129).map (·.size)=some E.size):=hid (by rw[<-hE,List.size_toArray,yx he];kernel_rfl)
 have HE45:Hid (45=E.size):=hid (by rw[<-hE,List.size_toArray,yx he])
 have HOE:Hid (E.all (·.oneCell')=true):=hid (by rw[<-hE];exact all_oneCell_toArray (vZ _))
 rw[hX] at d1
 rw[hY] at d2
 rw[hP] at d3
 rw[hE]
 obtain⟨Z,HZ⟩:=nm_ ((qv zL).toArray)
 obtain⟨w0,hw0⟩:∃ w0,w.alloc (.cells Z 129)=w0:=⟨_,rfl⟩
 have hb0:Below w.heap.size w w0:=by rw[<-hw0];exact(Below.refl _ _).alloc (Nat.le_refl _) _
 have hh0:w0.heap[w.heap.size]? = some (.cells Z 129):=by rw[<-hw0];exact heap_alloc_new _ _
 have HFN:Hid (∀ W,Below w0.heap.size w0 W->Mx W/\Ers W/\W.heap[w.heap.size]? = some (.cells Z 129)/\(W.setRow w.heap.size E).heap[w.heap.size]? = some (.cells E 129)/\Below w.heap.size w (W.setRow w.heap.size E)):=fun W hW=>by
  have q1:=(hW.block _ (z7 hh0)).trans hh0
  exact⟨(hmx.below hb0).below hW,(her.below hb0).below hW,q1,setRow_heap _ _ _ _ _ _ q1,below_setRow (hb0.trans (hW.mono hb0.size)) (Nat.le_refl _) _⟩
 have HZS:Hid (Z.size=E.size):=hid (by rw[<-HE45.out,<-HZ.out];rfl)
 have HZL:Hid (w.alloc (.cells (qv zL).toArray 129)=w0):=hid (by rw[HZ.out];exact hw0)
 have HBR:=hid (Below.refl w0.heap.size w0)
 clear k1 k2 k3 k4 hX hY hP hE ht2 ht3 hpb hn9 hn62 hl1 hl2 hlw hlt hb0 hh0 hpl hp he ht her hmx hw0
 go_enter Tryz.func202,Tryz.ntmps202
 go_wp2_with fail
 change Calls Tryz.prog 200 #[.string S0,.string ⟨#[32]⟩] (w.alloc (.cells (qv zL).toArray 129)) _
 rw[HZL.out]
 refine(c1 w0 (HFN.out w0 HBR.out).1).mono ?_
 rintro r w1 ⟨rfl,hb1⟩
 have B1:Hid (Below w0.heap.size w0 w1):=hid hb1
 clear hb1 c1
 go_wp2_with (first
  | (go_at_call 200;refine(c2 _ (HFN.out _ B1.out).1).mono ?_;rintro r w2 ⟨rfl,hb⟩;have B2:Hid (Below w0.heap.size w0 w2):=hid (B1.out.trans (hb.mono B1.out.size));clear hb c2)
  | (go_at_call 200;refine(c3 _ (HFN.out _ B2.out).1).mono ?_;rintro r w3 ⟨rfl,hb⟩;have B3:Hid (Below w0.heap.size w0 w3):=hid (B2.out.trans (hb.mono B2.out.size));clear hb c3)
  | (go_at_call 200;refine(c4 _ (HFN.out _ B3.out).1).mono ?_;rintro r w4 ⟨rfl,hb⟩;have B4:Hid (Below w0.heap.size w0 w4):=hid (B3.out.trans (hb.mono B3.out.size));clear hb c4)
  | (go_at_call 201;refine(d1 _).mono ?_;rintro r w5 ⟨rfl,hb⟩;have B5:Hid (Below w0.heap.size w0 w5):=hid (B4.out.trans (hb.mono B4.out.size));clear hb d1)
  | (go_at_call 201;refine(d2 _).mono ?_;rintro r w6 ⟨rfl,hb⟩;have B6:Hid (Below w0.heap.size w0 w6):=hid (B5.out.trans (hb.mono B5.out.size));clear hb)
  | (go_at_call 228;refine(d3 _ (HFN.out _ B6.out).2.1 (HFN.out _ B6.out).1).mono ?_;rintro r w7 ⟨rfl,hb⟩;have B7:Hid (Below w0.heap.size w0 w7):=hid (B6.out.trans (hb.mono B6.out.size));obtain⟨_,_,q1,q2,q3⟩:=HFN.out _ B7.out;have Q1:=hid q1;have Q2:=hid q2;have Q3:=hid q3;clear hb q1 q2 q3)
  | (refine z8 rfl _ (Xv 129 0 1 2 3 (.tmp 38) (.tmp 40) (.tmp 45) (.tmp 46) rfl (.agg X) (.agg Y) (.agg P) (.string S4) (.agg E) rfl rfl rfl rfl (HBD.out _)) ?_;go_frame)
  | (refine wpList_store_row rfl 129 (.tmp 2) (.tmp 47) rfl w.heap.size E rfl rfl 129 _ Q1.out HIE.out HZS.out HOE.out ?_))
 refine bodyPost_ret (qW Tryz.results202 _ _ w.heap.size E.toList _ rfl (zy (by simpa using Q2.out)) Tryz.underlying129 rfl (by simpa using HIE.out)) rfl ⟨?_,Q3.out⟩
 simp
end Go.Proofs.YtgliaiemkfopeaaGreatDoor.K
