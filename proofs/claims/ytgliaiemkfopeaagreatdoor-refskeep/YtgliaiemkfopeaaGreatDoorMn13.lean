import Derived.Test.YtgliaiemkfopeaaGreatDoorMn12
import Derived.Test.YtgliaiemkfopeaaGreatDoorMn10
set_option linter.unusedSimpArgs false
set_option linter.unusedVariables false
set_option maxRecDepth 20000
set_option maxHeartbeats 4000000
namespace Go.Proofs.YtgliaiemkfopeaaGreatDoor.K
open Go.RowKit
def pr:Str:=[112,97,99,107,101,100,45,114,101,102,115]
def nw:Str:=pr++[46,110,101,119]
def FD (S:Nat->Prop) (N:Nat) (w:World) (D:Nat) (o:Option (List Int)):Prop := ∃ F,Dk S N w D F/\(∀ y,y ≠ pr->F y=none)/\(F pr).map (·.zs)=o
theorem FD.below {S:Nat->Prop} {N D:Nat} {w W:World} {o:Option (List Int)} (h:FD S N w D o) (hb:Below w.heap.size w W):FD S N W D o:=by
 obtain⟨F,h1,h2⟩:=h
 exact⟨F,h1.below hb,h2⟩
theorem FD.mono {S S':Nat->Prop} {N N' D:Nat} {w:World} {o:Option (List Int)} (h:FD S N w D o) (hS:∀ i,S i->S' i) (hN:N<=N'):FD S' N' w D o:=by
 obtain⟨F,h1,h2⟩:=h
 exact⟨F,h1.mono hS hN,h2⟩
theorem FD.tf {S:Nat->Prop} {N D:Nat} {w W:World} {o:Option (List Int)} (h:FD S N w D o) {T:TypeId} (ht:Tf T w W) (hs:w.heap.size<=W.heap.size) (h1:T ≠ 53/\T ≠ 63/\T ≠ 5/\T ≠ 174/\T ≠ 115):FD S N W D o:=by
 obtain⟨F,⟨g,gs,mv,n,ns,Ms,ls,k⟩,h2⟩:=h
 exact⟨F,⟨g,gs,mv,n,ns,Ms,ls,k.tf ht hs h1⟩,h2⟩
structure Rf (w:World) (R D t:Nat) (go un:Bool):Prop where
 box:w.heap[R]? = some (.cells #[.pointer (some ⟨D,0,none⟩),.map (some t),.bool go,.bool un] 107 (0,0))
theorem Rf.c {w:World} {R D t:Nat} {go un:Bool} (h:Rf w R D t go un):w.cell? ⟨R,0,none⟩=some (.pointer (some ⟨D,0,none⟩))/\w.cell? ⟨R,1,none⟩=some (.map (some t))/\w.cell? ⟨R,2,none⟩=some (.bool go)/\w.cell? ⟨R,3,none⟩=some (.bool un)/\(∀ i,w.frozen? ⟨R,i,none⟩=false):=by
 have hb:=h.box
 exact⟨by simp[World.cell?,hb],by simp[World.cell?,hb],by simp[World.cell?,hb],by simp[World.cell?,hb],fun i=>by simp[World.frozen?,hb]⟩
theorem FD.box {S:Nat->Prop} {N D:Nat} {w:World} {o:Option (List Int)} (h:FD S N w D o):∃ g gs mv,w.heap[D]? = some (dkB g gs mv):=by
 obtain⟨F,⟨g,gs,mv,n,ns,Ms,ls,k⟩,_⟩:=h
 exact⟨g,gs,mv,k.box⟩
theorem Tryz.results39:Tryz.f39.results=#[.tmp 2]:=by kernel_rfl
theorem Tryz.results84:Tryz.f84.results=#[.tmp 2]:=by kernel_rfl
theorem Tryz.results88:Tryz.f88.results=#[.tmp 4]:=by kernel_rfl
abbrev Sr (S:Nat->Prop) (R:Nat):Nat->Prop:=fun i=>S i ∨ i=R
theorem Al.mono {S S':Nat->Prop} {w w':World} (h:Al S w w') (hS:∀ i,S i->S' i):Al S' w w':=⟨h.os,h.tape,h.output,h.size,fun i hi hn=>h.blk i hi (fun hs=>hn (hS i hs))⟩
theorem Rf.al {S:Nat->Prop} {w w':World} {R D t:Nat} {go un:Bool} (h:Rf w R D t go un) (ha:Al S w w') (hn:¬ S R):Rf w' R D t go un:=⟨(ha.blk R (z7 h.box) hn).trans h.box⟩
theorem Rf.set {w:World} {R D t:Nat} {go un:Bool} (h:Rf w R D t go un) (b:Bool):Rf (w.setCell ⟨R,3,none⟩ (.bool b)) R D t go b:=⟨by rw[qy h.box];rfl⟩
theorem fd_sync (S:Nat->Prop) (N D:Nat) (zs:List Int) (w:World) (h:FD S N w D (some zs)) :
  Calls Tryz.prog 70 #[.pointer (some ⟨D,0,none⟩),sV pr] w fun e w'=>e=.returned .nilIface/\FD S N w' D (some zs)/\Al S w w':=by
 obtain⟨F,h1,h2,h3⟩:=h
 cases hF:F pr with
 | some f =>
  refine(sync_any S N D F f pr w h1 hF).mono ?_
  rintro e w' ⟨rfl,k1,k2⟩
  exact⟨rfl,⟨_,k1,fun y hy=>by rw[uw _ _ _ _ hy];exact h2 y hy,by rw[jQ,<-h3,hF];rfl⟩,k2⟩
 | none=>rw[hF] at h3;cases h3
theorem fd_sync0 (S:Nat->Prop) (N D:Nat) (w:World) (h:FD S N w D none) :
  Calls Tryz.prog 70 #[.pointer (some ⟨D,0,none⟩),sV pr] w fun e w'=>∃ b,e=.returned (.iface 171 (.pointer (some ⟨b,0,none⟩)))/\w'.cell? ⟨b,1,none⟩=some (.int .i64 3)/\FD S N w' D none/\Al S w w':=by
 obtain⟨F,h1,h2,h3⟩:=h
 have hF:F pr=none:=by cases hF:F pr with
  | none=>rfl
  | some f=>rw[hF] at h3;cases h3
 obtain⟨g,gs,mv,n,ns,Ms,ls,k⟩:=h1
 refine(sync_none D g n pr (ptF F) w k.fine k.c0.1 k.now (by decide) (by simp[ptF,hF])).mono ?_
 rintro e w' ⟨rfl,rfl⟩
 have hb:Below w.heap.size w (w.alloc (.cells #[sV pr,.int .i64 3] 173)):=(Below.refl _ w).alloc (Nat.le_refl _) _
 exact⟨_,rfl,cell_of_row _ _ 1 _ _ _ (heap_alloc_new w _),⟨F,⟨g,gs,mv,n,ns,Ms,ls,k.below hb⟩,h2,h3⟩,Al.below hb⟩
theorem fd_syncDir (S:Nat->Prop) (N D:Nat) (o:Option (List Int)) (w:World) (h:FD S N w D o) (hN:N<=90000) :
  Calls Tryz.prog 71 #[.pointer (some ⟨D,0,none⟩)] w fun e w'=>e=.returned .nilIface/\FD S N w' D o/\Al S w w':=by
 obtain⟨F,h1,h2⟩:=h
 refine(syncDir_any S N D F w h1 hN).mono ?_
 rintro e w' ⟨rfl,k1,k2⟩
 exact⟨rfl,⟨F,k1,h2⟩,k2⟩
set_option maxHeartbeats 1000000 in
theorem settle_any (S:Nat->Prop) (N R D t:Nat) (go un:Bool) (o:Option (List Int)) (w:World) (h:FD S N w D o) (hR:Rf w R D t go un) (hN:N<=90000) (hS:¬ S R) :
  Calls Tryz.prog 39 #[.pointer (some ⟨R,0,none⟩)] w fun e w'=>e=.returned .nilIface/\FD S N w' D o/\Rf w' R D t go false/\Al (Sr S R) w w':=by
 obtain⟨h0,_,_,_,_⟩:=hR.c
 have hsd:=fun W (hW:FD S N W D o)=>fd_syncDir S N D o W hW hN
 have HR:=hid hR
 have HE:Hid (∀ w1 w2,Al S w w1->Al S w1 w2->FD S N w2 D o->w2.frozen? ⟨R,3,none⟩=false/\w2.cell? ⟨R,3,none⟩=some (.bool un)/\FD S N (w2.setCell ⟨R,3,none⟩ (.bool false)) D o/\Rf (w2.setCell ⟨R,3,none⟩ (.bool false)) R D t go false/\Al (Sr S R) w (w2.setCell ⟨R,3,none⟩ (.bool false))):=fun w1 w2 a1 a2 h2=>by
  have hr:=(HR.out.al a1 hS).al a2 hS
  exact⟨hr.c.2.2.2.2 3,hr.c.2.2.2.1,h2.tf (Tf.set (p:=⟨R,3,none⟩) hr.box _) (by simp[World.setCell]) (by decide),hr.set false,(((a1.trans a2 (fun i h=>.inl h)).mono (S':=Sr S R) (fun i h=>.inl h)).trans (Al.of_set (S:=Sr S R) (p:=⟨R,3,none⟩) (.inr rfl) _) (fun i h=>.inl h))⟩
 have hc0:Hid (∀ w1,Al S w w1->w1.cell? ⟨R,0,none⟩=some (.pointer (some ⟨D,0,none⟩))):=fun w1 a1=>(HR.out.al a1 hS).c.1
 clear hR
 cases o with
 | some zs =>
  have hsy:=fd_sync S N D zs w h
  unfold sV pr at hsy
  clear h
  go_enter Tryz.func39,Tryz.ntmps39
  go_wp2_with (first
   | (go_at_call 70;refine hsy.mono ?_;rintro e w1 ⟨rfl,k1,k2⟩;have hr0:=hc0.out w1 k2;have K2:=hid k2;have hsd1:=hsd w1 k1;clear k1 k2 hsd)
   | (go_at_call 71;refine hsd1.mono ?_;rintro e w2 ⟨rfl,k1,k2⟩;obtain⟨q1,q2,q3⟩:=HE.out w1 w2 K2.out k2 k1;have Q3:=hid q3;clear k1 k2 q3))
  exact bodyPost_ret (results_tmp Tryz.results39 _ _ _) rfl ⟨rfl,Q3.out⟩
 | none =>
  have hsy:=fd_sync0 S N D w h
  unfold sV pr at hsy
  clear h
  go_enter Tryz.func39,Tryz.ntmps39
  go_wp2_with (first
   | (go_at_call 70;refine hsy.mono ?_;rintro e w1 ⟨b,rfl,kb,k1,k2⟩;have hr0:=hc0.out w1 k2;have K2:=hid k2;have hsd1:=hsd w1 k1;have hif:=is_file b w1 kb;clear k1 k2 kb hsd)
   | (go_at_call 66;refine hif.mono ?_;rintro e w' ⟨rfl,rfl⟩)
   | (go_at_call 71;refine hsd1.mono ?_;rintro e w2 ⟨rfl,k1,k2⟩;obtain⟨q1,q2,q3⟩:=HE.out _ w2 K2.out k2 k1;have Q3:=hid q3;clear k1 k2 q3))
  exact bodyPost_ret (results_tmp Tryz.results39 _ _ _) rfl ⟨rfl,Q3.out⟩
theorem ZX (R D t:Nat) (go:Bool) (w:World) (hR:Rf w R D t go false) :
  Calls Tryz.prog 84 #[.pointer (some ⟨R,0,none⟩)] w fun e w'=>e=.returned .nilIface/\w'=w:=by
 have h3:=hR.c.2.2.2.1
 go_enter Tryz.func84,Tryz.ntmps84
 go_wp2_with fail
 exact bodyPost_ret (results_tmp Tryz.results84 _ _ _) rfl ⟨rfl,rfl⟩
theorem tell_any (S:Nat->Prop) (N R D t t':Nat) (go un:Bool) (o:Option (List Int)) (w:World) (h:FD S N w D o) (hR:Rf w R D t go un) (hN:N<=90000) (hS:¬ S R) :
  Calls Tryz.prog 88 #[.pointer (some ⟨R,0,none⟩),.map (some t')] w fun e w'=>e=.returned .nilIface/\FD S N w' D o/\Rf w' R D t' go false/\Al (Sr S R) w w':=by
 obtain⟨_,h1,_,_,hf⟩:=hR.c
 have hf1:=hf 1
 have hse:=settle_any S N R D t' go un o (w.setCell ⟨R,1,none⟩ (.map (some t'))) (h.tf (Tf.set (p:=⟨R,1,none⟩) hR.box _) (by simp[World.setCell]) (by decide)) ⟨by rw[qy hR.box];rfl⟩ hN hS
 have HA:Hid (Al (Sr S R) w (w.setCell ⟨R,1,none⟩ (.map (some t')))):=hid (Al.of_set (S:=Sr S R) (p:=⟨R,1,none⟩) (.inr rfl) _)
 clear hf
 go_enter Tryz.func88,Tryz.ntmps88
 go_wp2_with (go_at_call 39;refine hse.mono ?_;rintro e w1 ⟨rfl,k1,k2,k3⟩)
 exact bodyPost_ret (results_tmp Tryz.results88 _ _ _) rfl ⟨rfl,k1,k2,HA.out.trans k3 (fun i h=>.inl h)⟩
end Go.Proofs.YtgliaiemkfopeaaGreatDoor.K
namespace Go.Proofs.YtgliaiemkfopeaaGreatDoor.K
open Go.RowKit Go.Maps Go.Sort Go.Shelf
structure Le where
 old:List Int
 new:List Int
 who:Per
 text:Str
def IdW (x:List Int):Prop:=x.length=20/\IsB x
def qv (e:Le):List Value:=row .u8 e.old++(row .u8 e.new++[.string ⟨e.who.name.toArray⟩,.string ⟨e.who.mail.toArray⟩,.int .i64 e.who.time,.int .i64 e.who.zone,sV e.text])
abbrev dL:Le:=⟨[],[],⟨[],[],0,0⟩,[]⟩
structure Lr where
 id:List Int
 tg:Str
 a:Option Addr
 c:Nat
 log:List Le
def rV (r:Lr):Value:=.agg (row .u8 r.id++[sV r.tg,.slice r.a r.log.length r.c]).toArray
abbrev zQ:List Int:=List.replicate 20 0
def r0:Lr:=⟨zQ,[],none,0,[]⟩
def uy (e:Le):Prop:=IdW e.old/\IdW e.new
theorem yx {e:Le} (h:uy e):(qv e).length=45:=by simp[qv,zw,h.1.1,h.2.1]
theorem vZ (e:Le):∀ v ∈ qv e,v.oneCell'=true:=fun v hv=>by
 unfold qv at hv
 simp only[List.mem_append,List.mem_cons,List.not_mem_nil,or_false] at hv
 rcases hv with hv | hv | rfl | rfl | rfl | rfl | rfl
 ·exact yQ .u8 e.old v hv
 ·exact yQ .u8 e.new v hv
 all_goals rfl
structure Yu (S:Nat->Prop) (w:World) (x:Str) (r:Lr):Prop where
 nm:x.length<=60
 id:IdW r.id
 tg:r.tg.length<=60
 px:Px qv 45 dL w r.a r.c r.log
 few:r.log.length<=100000
 ok:∀ e ∈ r.log,uy e
 out:∀ p:Addr,r.a=some p->¬ S p.block/\p.block<w.heap.size
abbrev Ts:=Str->Option Lr
def vT (T:Ts):Str->Option Value:=fun x=>(T x).map rV
structure Tt (S:Nat->Prop) (w:World) (t n:Nat) (T:Ts):Prop where
 tm:TM (rV r0) w t n (vT T)
 at_:∀ x r,T x=some r->Yu S w x r
 out:¬ S t
theorem Yu.al {S:Nat->Prop} {w w':World} {x:Str} {r:Lr} (h:Yu S w x r) (ha:Al S w w'):Yu S w' x r :=
 ⟨h.nm,h.id,h.tg,h.px.tf (fun q hq=>ha.blk _ (h.out q hq).2 (h.out q hq).1) ha.size,h.few,h.ok,fun p hp=>⟨(h.out p hp).1,Nat.lt_of_lt_of_le (h.out p hp).2 ha.size⟩⟩
theorem Yu.to {S S':Nat->Prop} {w:World} {x:Str} {r:Lr} (h:Yu S w x r) (hS:∀ i,S' i->S i ∨ w.heap.size<=i):Yu S' w x r :=
 ⟨h.nm,h.id,h.tg,h.px,h.few,h.ok,fun p hp=>⟨fun hs=>by rcases hS _ hs with k | k;exact(h.out p hp).1 k;have:=(h.out p hp).2;omega,(h.out p hp).2⟩⟩
theorem Tt.al {S:Nat->Prop} {w w':World} {t n:Nat} {T:Ts} (h:Tt S w t n T) (ha:Al S w w'):Tt S w' t n T :=
 ⟨h.tm.sm (ha.blk t h.tm.lt h.out),fun x r hr=>(h.at_ x r hr).al ha,h.out⟩
theorem Tt.to {S S':Nat->Prop} {w:World} {t n:Nat} {T:Ts} (h:Tt S w t n T) (hS:∀ i,S' i->S i ∨ w.heap.size<=i):Tt S' w t n T :=
 ⟨h.tm,fun x r hr=>(h.at_ x r hr).to hS,fun hs=>by rcases hS _ hs with k | k;exact h.out k;have:=h.tm.lt;omega⟩
theorem Tt.below {S:Nat->Prop} {w w':World} {t n:Nat} {T:Ts} (h:Tt S w t n T) (hb:Below w.heap.size w w'):Tt S w' t n T:=h.al (Al.below hb)
theorem vT_some {T:Ts} {x:Str} {v:Value} (h:vT T x=some v):∃ r,T x=some r/\v=rV r:=by
 unfold vT at h
 cases hf:T x with
 | none=>rw[hf] at h;cases h
 | some f=>rw[hf] at h;exact⟨f,rfl,(Option.some.inj h).symm⟩
theorem kw {H:Type} {P:Program} {k:TypeId} {R:Value->Option (DataW H × List MemPlace)} {w:World} {b n:Nat} {D:DataW H} (h:w.ownsMap P k R b n D) (hk:P.underlying k=some .string) (x:Str):x ∈ strKeys D ↔ Maps.has D (.string x)=true:=by
 obtain⟨es,rfl,hes⟩:=h.keysOf
 simp only[strKeys,List.mem_map,Maps.has,List.any_eq_true]
 constructor
 ·rintro⟨p,hp,rfl⟩
  refine⟨p,hp,?_⟩
  obtain⟨key,hkey⟩:=hes p hp
  obtain⟨y,_,e,_⟩:=Maps.keyOf_str hk hkey
  rw[e];simp[strOf,Lit.sameKey]
 ·rintro⟨p,hp,hs⟩
  refine⟨p,hp,?_⟩
  obtain⟨key,hkey⟩:=hes p hp
  obtain⟨y,_,e,_⟩:=Maps.keyOf_str hk hkey
  rw[e] at hs ⊢
  simpa [strOf,Lit.sameKey] using hs
theorem key_len (x:Str) (h:x.length<=maxLen):keyOf Tryz.prog 9 (sV x)=some (.string x):=by
 have h2:(⟨x.toArray⟩:ByteArray).size<=maxLen:=by simpa [ByteArray.size] using h
 unfold keyOf sV
 rw[Tryz.underlying9]
 simp[mapKey,Tryz.underlying9,h2]
theorem sortsT (m:Nat):AnyZ.SortsIn Tryz.prog Tryz.sortedT_ren Fence.wide m :=
  ⟨fun blk off cap ss W hH hblk hsz=>callsIn_wide.2 (AnyM.slices_Sort_string Tryz.sortT blk off cap ss W hH hblk hsz),
   fun p cap W=>callsIn_wide.2 (AnyM.slices_Sort_string_none Tryz.sortT p cap W)⟩
set_option maxHeartbeats 1000000 in
theorem names_any (S:Nat->Prop) (t n:Nat) (T:Ts) (w:World) (h:Tt S w t n T) (hn:n<=100000) :
  Calls Tryz.prog 62 #[.map (some t)] w fun e w'=>∃ (v:Value) (ss:List Str),e=.returned v/\(∀ x,x ∈ ss ↔ T x ≠ none)/\ss.Pairwise (fun x y=>decide (x<=y)=true)/\ss.Nodup/\w'.ownsRow w.heap.size 9 1 v ss.length (ss.map sV)/\Below w.heap.size w w':=by
 obtain⟨D0,hown,hv⟩:=h.tm
 have hsz:Maps.size D0<=100000:=Nat.le_trans hown.size_le hn
 have hmax:Maps.size D0<=maxLen:=by unfold maxLen;omega
 have hbytes:Maps.size D0*16<=140737488355328:=by omega
 have HM:Hid (∀ ss:List Str,ss.Perm (strKeys D0)->(∀ x,x ∈ srt ss ↔ T x ≠ none)/\(srt ss).Nodup):=fun ss hp=>by
  refine⟨fun x=>?_,?_⟩
  ·rw[(uk ss).mem_iff,hp.mem_iff,kw hown Tryz.underlying9]
   have hT:∀ y,T y ≠ none ↔ (vT T y).isSome=true:=fun y=>by cases e:T y <;> simp[vT,e]
   constructor
   ·intro hx
    have hl:=strKeys_le hown Tryz.underlying9 x ((kw hown Tryz.underlying9 x).2 hx)
    rw[(hv x _ (key_len x hl)).1] at hx
    exact(hT x).2 hx
   ·intro hx
    have hl:x.length<=4000:=by
     cases e:T x with
     | none=>exact absurd e hx
     | some r=>have:=(h.at_ x r e).nm;omega
    rw[(hv x _ (Zk x hl)).1]
    exact(hT x).1 hx
  ·rw[(uk ss).nodup_iff,hp.nodup_iff]
   obtain⟨es,rfl,hes⟩:=hown.keysOf
   obtain⟨es',e,hpw,_⟩:=hown.entries vY
   cases e
   simp only[strKeys]
   refine(List.pairwise_map.2 (hpw.imp_of_mem fun {p q} hp hq hne hpq=>?_))
   obtain⟨key,hkey⟩:=hes p hp
   obtain⟨key',hkey'⟩:=hes q hq
   obtain⟨y,_,e1,_⟩:=Maps.keyOf_str Tryz.underlying9 hkey
   obtain⟨y',_,e2,_⟩:=Maps.keyOf_str Tryz.underlying9 hkey'
   rw[e1,e2] at hpq hne
   simp only[strOf] at hpq
   exact hne (by rw[hpq])
 refine(callsIn_wide (n:=6)).1 ?_
 have hbl:=hown.lt
 have hseq:SeqGives Fence.wide 2 Tryz.prog 135 #[.pointer (some ⟨w.heap.size,0,none⟩)] encStr (fun ss=>ss.Perm (strKeys D0)) (Maps.size D0) (w.alloc (.cells #[.map (some t)] 105)) :=
  AnyZ.keys_gives (ρ:=Tryz.keysT_ren) { Tryz.keysT with } Fence.wide _ trivial rfl (by omega) w.heap.size t n D0 _ (by simp) (by simp) (by
   obtain⟨es,clock,hb,Ft,hs,hD⟩:=hown
   exact⟨es,clock,(Below.heap_alloc _ _ t hbl).trans hb,Ft,hs,hD⟩)
 have cK:∀ mb W,CallsIn Fence.wide 5 Tryz.prog 99 #[.map mb] W fun e w'=>e=.returned (.func (.func 135) #[] #[.pointer (some ⟨W.heap.size,0,none⟩)])/\w'=W.alloc (.cells #[.map mb] 105):=fun mb W=>AnyZ.keys_in Tryz.keysT Fence.wide 5 trivial rfl mb W
 have cS:=AnyZ.sorted_in Tryz.sortedT Fence.wide 5 trivial trivial trivial trivial rfl (by omega) (sortsT _) (enters_of Tryz.func41 (by kernel_rfl) rfl) 135 #[.pointer (some ⟨w.heap.size,0,none⟩)] trivial (enters_of Tryz.func135 (by kernel_rfl) rfl) _ _ hmax hbytes _ hseq
 change CallsIn _ _ Tryz.prog 98 _ _ _ at cS
 have hfK:Fence.wide.fn 99:=trivial
 have hfS:Fence.wide.fn 98:=trivial
 refine callsIn_of_wp Tryz.func62 rfl trivial ?_ rfl
 simp only[Tryz.ntmps62,List.size_toArray,List.length_cons,List.length_nil,Nat.reduceAdd,Nat.reduceSub,Array.replicate_succ,Array.replicate_zero,List.push_toArray,List.append_toArray,List.nil_append,List.cons_append]
 gi_wp2_with (first
  | (gi_at_call 99;refine(cK _ _).mono ?_;rintro e w' ⟨rfl,rfl⟩)
  | (gi_at_call 98;refine cS.mono ?_;rintro e w' ⟨v,ss,rfl,hS,hrow,hnil,hb⟩))
 go_ret
 refine⟨v,srt ss,rfl,(HM.out ss hS).1,?_,(HM.out ss hS).2,?_,((Below.refl _ w).alloc (Nat.le_refl _) _).trans (hb.mono (by simp))⟩
 ·exact List.pairwise_mergeSort (fun a b c h1 h2=>by simp only[decide_eq_true_eq] at *;exact List.le_trans h1 h2) (fun a b=>by simp only[Bool.or_eq_true,decide_eq_true_eq];exact List.le_total a b) ss
 ·rw[show (srt ss).length=ss.length from (uk ss).length_eq];exact ownsRow_base_a hrow (by simp)
end Go.Proofs.YtgliaiemkfopeaaGreatDoor.K
namespace Go.Proofs.YtgliaiemkfopeaaGreatDoor.K
open Go.RowKit
abbrev isN (x:Str):Bool:=Nm.isN x
theorem qZ {x:Str} (h:isN x=true):x.length<=60:=by
 unfold isN Nm.isN at h
 rw[Bool.or_eq_true] at h
 rcases h with h | h
 ·rw[beq_iff_eq] at h;subst h;decide
 ·unfold Nm.docOk at h
  simp only[Bool.and_eq_true,decide_eq_true_eq] at h
  exact h.1.1.1.1
theorem Tryz.results58:Tryz.f58.results=#[.tmp 2]:=by kernel_rfl
theorem Tryz.results51:Tryz.f51.results=#[.tmp 2]:=by kernel_rfl
theorem yK (s:Str) (w:World) (hm:Nm.Mx w):Calls Tryz.prog 58 #[sV s] w fun e w'=>e=.returned (.bool (isN s))/\Below w.heap.size w w':=by
 by_cases hs:s.length<=100000
 ·exact Nm.isName_any s hs w hm
 ·have hf:isN s=false:=by
   cases e:isN s with
   | false=>rfl
   | true=>have:=qZ e;omega
  rw[hf]
  have h1:(s == [72,69,65,68])=false:=by
   rw[beq_eq_false_iff_ne]
   rintro rfl
   simp at hs
  have h2:¬ ((s.length:Int)<=60):=by omega
  unfold sV
  go_enter Tryz.func58,Tryz.ntmps58
  go_wp2_with fail
  exact bodyPost_ret (results_tmp Tryz.results58 _ _ _) rfl ⟨rfl,Below.refl _ _⟩
theorem vW (s:Str) (w:World):Calls Tryz.prog 51 #[sV s] w fun e w'=>e=.returned (.bool (isN s))/\Below w.heap.size w w':=by
 by_cases hs:s.length<=100000
 ·exact Nm.refName_any s hs w
 ·have hf:isN s=false:=by
   cases e:isN s with
   | false=>rfl
   | true=>have:=qZ e;omega
  rw[hf]
  have h1:(s == [72,69,65,68])=false:=by
   rw[beq_eq_false_iff_ne]
   rintro rfl
   simp at hs
  have h2:(60:Int)<(s.length:Int):=by omega
  unfold sV
  go_enter Tryz.func51,Tryz.ntmps51
  go_wp2_with fail
  exact bodyPost_ret (results_tmp Tryz.results51 _ _ _) rfl ⟨rfl,Below.refl _ _⟩
theorem yZ:∀ (fr:List Int),fr.length=20->∃ a0 a1 a2 a3 a4 a5 a6 a7 a8 a9 a10 a11 a12 a13 a14 a15 a16 a17 a18 a19,fr=[a0,a1,a2,a3,a4,a5,a6,a7,a8,a9,a10,a11,a12,a13,a14,a15,a16,a17,a18,a19]
 | [a0,a1,a2,a3,a4,a5,a6,a7,a8,a9,a10,a11,a12,a13,a14,a15,a16,a17,a18,a19],_=>⟨a0,a1,a2,a3,a4,a5,a6,a7,a8,a9,a10,a11,a12,a13,a14,a15,a16,a17,a18,a19,rfl⟩
theorem j0 (w:World):(zeroValue 125).run Tryz.prog w=.ok (rV r0) w:=by kernel_rfl
theorem build125 (w:World):(Instr.build 125 #[]).run Tryz.prog w=.ok (rV r0) w:=by kernel_rfl
abbrev eI (k:Int):Value:=.iface 44 (.int .i64 k)
def gt (T:Ts) (x:Str):Except Int Lr:=if isN x then (match T x with | some r=>.ok r | none=>.error 61) else .error 60
def PostG (T:Ts) (x:Str) (e:Ending):Prop:=match gt T x with
 | .ok r=>e=.returned (.tuple #[rV r,.nilIface])
 | .error k=>e=.returned (.tuple #[rV r0,eI k])
abbrev zA:Array Value:=#[.int .u8 0,.int .u8 0,.int .u8 0,.int .u8 0,.int .u8 0,.int .u8 0,.int .u8 0,.int .u8 0,.int .u8 0,.int .u8 0,.int .u8 0,.int .u8 0,.int .u8 0,.int .u8 0,.int .u8 0,.int .u8 0,.int .u8 0,.int .u8 0,.int .u8 0,.int .u8 0,.string ⟨#[]⟩,.slice none 0 0]
def z125:Obj:=.cells zA 125
theorem zq {P:Program} {ops:Array Oper} {rest:List Oper} {o:Oper} {a:Act} {W:World} {Q:Exit->Act->World->Prop} (hgd:o.guard=none) (ty:TypeId) (x y:Operand) (ho:o.op=.store ty x y) (z A:Array Value) (hx:a.eval x=.pointer (some ⟨W.heap.size,0,none⟩)) (hy:a.eval y=.agg A)
  (hi:(P.info? ty).map (·.size)=some A.size) (hz:z.size=A.size) (h1:A.all (·.oneCell')=true) (h:wpList P ops Q rest (a.put o.dst undef) (W.alloc (.cells A ty))):wpList P ops Q (o :: rest) a (W.alloc (.cells z ty)):=by
 refine wpList_store_row hgd ty x y ho W.heap.size A hx hy ty z (heap_alloc_new W _) hi hz h1 ?_
 rw[World.setRow_alloc_new]
 exact h
theorem zu {P:Program} {ops:Array Oper} {rest:List Oper} {o:Oper} {a:Act} {w:World} {Q:Exit->Act->World->Prop} (hgd:o.guard=none) (ty:TypeId) (x:Operand) (ho:o.op=.load ty x) (g:Nat) (A:Array Value) (t:TypeId) (f:Nat × Nat) (d:TypeDesc) (hx:a.eval x=.pointer (some ⟨g,0,none⟩)) (hg:w.heap[g]? = some (.cells A t f))
  (hu:P.underlying ty=some d) (hd:d.isRow=true) (hi:(P.info? ty).map (·.size)=some A.size) (h:wpList P ops Q rest (a.put o.dst (.agg A)) w):wpList P ops Q (o :: rest) a w:=by
 refine wpList_load_mid hgd ty x ho g 0 hx A.toList d (zy (by simpa using hg)) hu hd (by simpa using hi) ?_
 simpa using h
theorem yk {P:Program} {o:Oper} {a:Act} {w w':World} (t:TypeId) (ho:o.op=.build t #[]) {v:Value} (hr:(Instr.build t #[]).run P w=.ok v w'):(execOp a.eval o).run P w=.ok (.value v) w':=by
 unfold execOp
 simp[ho,hr,Result.andThen]
structure Ra (r:Lr) (A:Array Value):Prop where
 e:rV r=.agg A
 i:(Tryz.prog.info? 125).map (·.size)=some A.size
 z:zA.size=A.size
 o:A.all (·.oneCell')=true
theorem ra (r:Lr) (h:r.id.length=20):∃ A,Hid (Ra r A):=by
 have hs:(row .u8 r.id++[sV r.tg,.slice r.a r.log.length r.c]).toArray.size=22:=by simp[zw,h]
 exact⟨_,hid ⟨rfl,by rw[hs];kernel_rfl,by rw[hs];rfl,all_oneCell_toArray (fun v hv=>by
  rcases List.mem_append.1 hv with hv | hv
  ·exact yQ _ _ v hv
  ·simp only[List.mem_cons,List.not_mem_nil,or_false] at hv
   rcases hv with rfl | rfl <;> rfl)⟩⟩
theorem qw {P:Program} {fn:Func} {p q:Tmp} {ty:TypeId} (h:fn.results=#[.cell p ty,.tmp q]) (tmps:Array Value) (w:World) (g:Nat) (cs:List Value) (d:TypeDesc) (v:Value)
  (hp:tmps.getD p undef=.pointer (some ⟨g,0,none⟩)) (hq:tmps.getD q undef=v) (hc:w.rangeAt g 0 cs) (hu:P.underlying ty=some d) (hd:d.isRow=true) (hi:(P.info? ty).map (·.size)=some cs.length) :
  (results fn tmps).run P w=.ok (.tuple #[.agg cs.toArray,v]) w:=by
 have hp':tmps[p]?.getD undef=.pointer (some ⟨g,0,none⟩):=by simpa using hp
 have hq':tmps[q]?.getD undef=v:=by simpa using hq
 simp[results,h,hp',hq',asAddr,run_loadVar_mid w g 0 ty cs d hc hu hd hi]
theorem Tryz.results60:Tryz.f60.results=#[.cell 4 125,.tmp 5]:=by kernel_rfl
set_option maxHeartbeats 2000000 in
theorem get_any (S:Nat->Prop) (t n:Nat) (T:Ts) (x:Str) (w:World) (h:Tt S w t n T) (hm:Nm.Mx w) :
  Calls Tryz.prog 60 #[.map (some t),sV x] w fun e w'=>PostG T x e/\Below w.heap.size w w':=by
 have HB0:Hid (Below w.heap.size w (w.alloc z125)):=hid ((Below.refl _ w).alloc (Nat.le_refl _) _)
 have hin1:=yK x (w.alloc z125) (hm.below HB0.out)
 have HK:Hid (∀ w1,Below (w.alloc z125).heap.size (w.alloc z125) w1->Below w.heap.size w w1/\w1.heap[w.heap.size]? = some z125):=fun w1 h1=>⟨HB0.out.trans (h1.mono (by simp)),(h1.block _ (by simp)).trans (heap_alloc_new _ _)⟩
 have hlk:=fun W (hW:Below w.heap.size w W) (hx:x.length<=4000)=>(h.below hW).tm.look xu (j0 W) hx
 have HAT:=hid h.at_
 unfold z125 at HK hin1
 clear h hm
 have HE:Hid (∀ (w1 w2:World) (A:Array Value),Below w.heap.size w w1->Below w1.heap.size w1 w2->w1.heap[w.heap.size]? = some (.cells zA 125)->w2.heap[w.heap.size]? = some (.cells zA 125)/\(w2.setRow w.heap.size A).heap[w.heap.size]? = some (.cells A 125)/\Below w.heap.size w (w2.setRow w.heap.size A)):=fun w1 w2 A b1 b2 h1=>by
  have h2:=(b2.block _ (z7 h1)).trans h1
  exact⟨h2,setRow_heap _ _ _ _ _ _ h2,below_setRow (b1.trans (b2.mono b1.size)) (Nat.le_refl _) _⟩
 unfold PostG gt
 obtain⟨A0,HA0⟩:=ra r0 rfl
 have hz0:rV r0=.agg A0:=HA0.out.e
 have HBD:Hid (∀ W:World,(Instr.build 125 #[]).run Tryz.prog W=.ok (.agg A0) W):=fun W=>by rw[<-hz0];exact build125 W
 cases hi:isN x with
 | false =>
  rw[hi] at hin1
  simp only[Bool.false_eq_true,if_false]
  rw[hz0]
  clear hz0
  unfold sV at hin1 ⊢
  clear hlk
  go_enter Tryz.func60,Tryz.ntmps60
  go_wp2_with (first
   | (go_at_call 58;refine hin1.mono ?_;rintro e w1 ⟨rfl,hb1⟩;obtain⟨q1,q2⟩:=HK.out w1 hb1;obtain⟨q3,q4,q5⟩:=HE.out w1 w1 A0 q1 (Below.refl _ _) q2;have Q3:=hid q3;have Q4:=hid q4;have Q5:=hid q5;clear hb1 q1 q2 q3 q4 q5)
   | (refine z8 rfl (.agg A0) (yk 125 rfl (HBD.out _)) ?_)
    | (refine wpList_store_row rfl 125 (.tmp 4) (.tmp 11) rfl w.heap.size A0 rfl rfl 125 _ Q3.out HA0.out.i HA0.out.z HA0.out.o ?_)
    | (refine zq rfl 125 (.tmp 6) (.tmp 17) rfl _ A0 rfl rfl HA0.out.i HA0.out.z HA0.out.o ?_))
  exact bodyPost_ret (qw Tryz.results60 _ _ w.heap.size A0.toList _ _ rfl rfl (zy (by simpa using Q4.out)) Tryz.underlying125 rfl (by simpa using HA0.out.i)) rfl ⟨by simp,Q5.out⟩
 | true =>
  have hx:x.length<=4000:=by have:=qZ hi;omega
  rw[hi] at hin1
  simp only[if_true]
  cases hT:T x with
  | none =>
   have hlk1:=fun W hW=>hlk W hW hx
   simp only[vT,hT,Option.map_none,Option.getD_none,Option.isSome_none,hz0] at hlk1
   simp only[]
   rw[hz0]
   clear hz0
   unfold sV at hin1 hlk1 ⊢
   clear hlk
   go_enter Tryz.func60,Tryz.ntmps60
   go_wp2_with (first
    | (go_at_call 58;refine hin1.mono ?_;rintro e w1 ⟨rfl,hb1⟩;obtain⟨q1,q2⟩:=HK.out w1 hb1;obtain⟨q3,q4,q5⟩:=HE.out w1 (w1.alloc (.cells A0 125)) A0 q1 ((Below.refl _ _).alloc (Nat.le_refl _) _) q2;have hlk2:=hlk1 w1 q1;have Q3:=hid q3;have Q4:=hid q4;have Q5:=hid q5;clear hb1 q1 q2 q3 q4 q5 hlk1)
    | (refine z8 rfl (.agg A0) (yk 125 rfl (HBD.out _)) ?_)
    | (refine wpList_store_row rfl 125 (.tmp 4) (.tmp 21) rfl w.heap.size A0 rfl rfl 125 _ Q3.out HA0.out.i HA0.out.z HA0.out.o ?_)
    | (refine zq rfl 125 (.tmp 6) (.tmp 17) rfl _ A0 rfl rfl HA0.out.i HA0.out.z HA0.out.o ?_))
   exact bodyPost_ret (qw Tryz.results60 _ _ w.heap.size A0.toList _ _ rfl rfl (zy (by simpa using Q4.out)) Tryz.underlying125 rfl (by simpa using HA0.out.i)) rfl ⟨by simp,Q5.out⟩
  | some r =>
   obtain⟨A,HA⟩:=ra r (HAT.out x r hT).id.1
   have hlk1:=fun W hW=>hlk W hW hx
   simp only[vT,hT,Option.map_some,Option.getD_some,Option.isSome_some,HA.out.e] at hlk1
   simp only[]
   rw[HA.out.e]
   clear hz0
   unfold sV at hin1 hlk1 ⊢
   clear hlk
   go_enter Tryz.func60,Tryz.ntmps60
   go_wp2_with (first
    | (go_at_call 58;refine hin1.mono ?_;rintro e w1 ⟨rfl,hb1⟩;obtain⟨q1,q2⟩:=HK.out w1 hb1;obtain⟨q3,q4,q5⟩:=HE.out w1 (w1.alloc (.cells A 125)) A q1 ((Below.refl _ _).alloc (Nat.le_refl _) _) q2;have hlk2:=hlk1 w1 q1;have Q3:=hid q3;have Q4:=hid q4;have Q5:=hid q5;clear hb1 q1 q2 q3 q4 q5 hlk1)
    | (refine zq rfl 125 (.tmp 6) (.tmp 17) rfl _ A rfl rfl HA.out.i HA.out.z HA.out.o ?_)
    | (refine zu rfl 125 (.tmp 6) rfl w1.heap.size A 125 (0,0) _ rfl (heap_alloc_new w1 _) Tryz.underlying125 rfl HA.out.i ?_)
    | (refine wpList_store_row rfl 125 (.tmp 4) (.tmp 23) rfl w.heap.size A rfl rfl 125 _ Q3.out HA.out.i HA.out.z HA.out.o ?_))
   refine bodyPost_ret (qw Tryz.results60 _ _ w.heap.size A.toList _ _ rfl rfl (zy (by simpa using Q4.out)) Tryz.underlying125 rfl (by simpa using HA.out.i)) rfl ⟨by simp,Q5.out⟩
end Go.Proofs.YtgliaiemkfopeaaGreatDoor.K
namespace Go.Proofs.YtgliaiemkfopeaaGreatDoor.Rk
variable {α κ ε : Type} [DecidableEq α]
structure Dc (α κ ε:Type) where
 refs:List (α × κ)
 logs:List (α × ε)
abbrev Tb (α κ ε:Type):=α->Option (κ × List ε)
def fd:List (α × κ)->α->Option κ
 | [],_=>none
 | x :: l,a=>if x.1=a then some x.2 else fd l a
def lg (l:List (α × ε)) (a:α):List ε:=(l.filter fun e=>decide (e.1=a)).map (·.2)
structure R (d:Dc α κ ε) (m:Tb α κ ε):Prop where
 some_:∀ a k,fd d.refs a=some k->m a=some (k,lg d.logs a)
 none_:∀ a,fd d.refs a=none->m a=none
 own:∀ e ∈ d.logs,fd d.refs e.1 ≠ none
theorem lg_nil (a:α):lg ([] : List (α × ε)) a=[]:=rfl
theorem lg_app (l m:List (α × ε)) (a:α):lg (l++m) a=lg l a++lg m a:=by
 simp[lg]
theorem lg_cons (e:α × ε) (l:List (α × ε)) (a:α):lg (e :: l) a=if e.1=a then e.2 :: lg l a else lg l a:=by
 by_cases h:e.1=a <;> simp[lg,h]
theorem R.lg_none {d:Dc α κ ε} {m:Tb α κ ε} (h:R d m) (a:α) (ha:fd d.refs a=none):lg d.logs a=[]:=by
 simp only[lg,List.map_eq_nil_iff,List.filter_eq_nil_iff,decide_eq_true_eq]
 intro e he hea
 exact h.own e he (by rw[hea];exact ha)
theorem R.at {d:Dc α κ ε} {m:Tb α κ ε} (h:R d m) (a:α):m a=(fd d.refs a).map fun k=>(k,lg d.logs a):=by
 cases e:fd d.refs a with
 | none=>simp[h.none_ a e]
 | some k=>simp[h.some_ a k e]
def putT (m:Tb α κ ε) (a:α) (k:κ):Tb α κ ε:=fun b=>if b=a then some (k,((m a).map (·.2)).getD []) else m b
def delT (m:Tb α κ ε) (a:α):Tb α κ ε:=fun b=>if b=a then none else m b
def logT (m:Tb α κ ε) (a:α) (e:ε):Tb α κ ε:=fun b=>if b=a then (m a).map (fun x=>(x.1,x.2++[e])) else m b
theorem R.put {d:Dc α κ ε} {m:Tb α κ ε} (h:R d m) (a:α) (k:κ) (l':List (α × κ))
  (hl:∀ b,fd l' b=if b=a then some k else fd d.refs b):R ⟨l',d.logs⟩ (putT m a k):=by
 have hla:((m a).map (·.2)).getD []=lg d.logs a:=by
  rw[h.at a]
  cases e:fd d.refs a with
  | none=>simp[h.lg_none a e]
  | some q=>simp
 refine⟨fun b q hb=>?_,fun b hb=>?_,fun e he=>?_⟩
 ·rw[show fd l' b=_ from hl b] at hb
  by_cases hba:b=a
  ·subst hba
   simp only[if_true,Option.some.injEq] at hb
   subst hb
   simp[putT,hla]
  ·simp only[hba,if_false] at hb
   simp[putT,hba,h.some_ b q hb]
 ·rw[show fd l' b=_ from hl b] at hb
  by_cases hba:b=a
  ·simp[hba] at hb
  ·simp only[hba,if_false] at hb
   simp[putT,hba,h.none_ b hb]
 ·show fd l' e.1 ≠ none
  rw[hl]
  by_cases hea:e.1=a
  ·simp[hea]
  ·simp only[hea,if_false]
   exact h.own e he
theorem R.del {d:Dc α κ ε} {m:Tb α κ ε} (h:R d m) (a:α) (l':List (α × κ))
  (hl:∀ b,fd l' b=if b=a then none else fd d.refs b):R ⟨l',d.logs.filter fun e=>decide (e.1 ≠ a)⟩ (delT m a):=by
 have hlg:∀ b,b ≠ a->lg (d.logs.filter fun e=>decide (e.1 ≠ a)) b=lg d.logs b:=by
  intro b hb
  simp only[lg,List.filter_filter]
  congr 1
  apply List.filter_congr
  intro e _
  by_cases heb:e.1=b
  ·simp[heb,hb]
  ·simp[heb]
 refine⟨fun b q hb=>?_,fun b hb=>?_,fun e he=>?_⟩
 ·rw[show fd l' b=_ from hl b] at hb
  by_cases hba:b=a
  ·simp[hba] at hb
  ·simp only[hba,if_false] at hb
   simp only[delT,hba,if_false]
   rw[hlg b hba]
   exact h.some_ b q hb
 ·rw[show fd l' b=_ from hl b] at hb
  by_cases hba:b=a
  ·simp[delT,hba]
  ·simp only[hba,if_false] at hb
   simp[delT,hba,h.none_ b hb]
 ·simp only[List.mem_filter,decide_eq_true_eq] at he
  show fd l' e.1 ≠ none
  rw[hl]
  simp only[he.2,if_false]
  exact h.own e he.1
theorem R.log {d:Dc α κ ε} {m:Tb α κ ε} (h:R d m) (a:α) (e:ε) (ha:fd d.refs a ≠ none):R ⟨d.refs,d.logs++[(a,e)]⟩ (logT m a e):=by
 refine⟨fun b q hb=>?_,fun b hb=>?_,fun x hx=>?_⟩
 ·show logT m a e b=some (q,lg (d.logs++[(a,e)]) b)
  rw[lg_app]
  by_cases hba:b=a
  ·subst hba
   simp[logT,h.some_ b q hb,lg_cons,lg_nil]
  ·have hab:¬ a=b:=fun hh=>hba hh.symm
   simp[logT,hba,h.some_ b q hb,lg_cons,lg_nil,hab]
 ·have hba:¬ b=a:=by
   intro hh
   subst hh
   exact ha hb
  simp[logT,hba,h.none_ b hb]
 ·show fd d.refs x.1 ≠ none
  rcases List.mem_append.mp hx with hx | hx
  ·exact h.own x hx
  ·simp only[List.mem_singleton] at hx
   subst hx
   exact ha
theorem R.perm {d:Dc α κ ε} {m:Tb α κ ε} (h:R d m) (l:List (α × ε)) (hl:∀ a,lg l a=lg d.logs a)
  (ho:∀ e ∈ l,fd d.refs e.1 ≠ none):R ⟨d.refs,l⟩ m:=by
 refine⟨fun b q hb=>?_,fun b hb=>h.none_ b hb,ho⟩
 show m b=some (q,lg l b)
 rw[hl b]
 exact h.some_ b q hb
end Go.Proofs.YtgliaiemkfopeaaGreatDoor.Rk
#print axioms Go.Proofs.YtgliaiemkfopeaaGreatDoor.Rk.R.put
#print axioms Go.Proofs.YtgliaiemkfopeaaGreatDoor.Rk.R.del
#print axioms Go.Proofs.YtgliaiemkfopeaaGreatDoor.Rk.R.log
namespace Go.Proofs.YtgliaiemkfopeaaGreatDoor.Rk
variable {α κ ε : Type} [DecidableEq α]
def setL (ge:α->α->Bool) (a:α) (n:Option κ):List (α × κ)->Bool->List (α × κ)
 | [],done=>if done then [] else n.toList.map fun k=>(a,k)
 | r :: l,done =>
  (if !done && ge r.1 a then n.toList.map fun k=>(a,k) else [])++((if r.1=a then [] else [r])++setL ge a n l (done || ge r.1 a))
theorem fd_app (l m:List (α × κ)) (b:α):fd (l++m) b=(fd l b).or (fd m b):=by
 induction l with
 | nil=>simp[fd]
 | cons x l ih =>
  by_cases h:x.1=b <;> simp[fd,h,ih]
theorem fd_one (a:α) (n:Option κ) (b:α):fd (n.toList.map fun k=>(a,k)) b=if b=a then n else none:=by
 cases n with
 | none=>simp[fd]
 | some k =>
  by_cases h:a=b
  ·subst h;simp[fd]
  ·have h':¬ b=a:=fun hh=>h hh.symm
   simp[fd,h,h']
theorem fd_setL (ge:α->α->Bool) (a:α) (n:Option κ) (l:List (α × κ)):∀ (done:Bool) (b:α),
  fd (setL ge a n l done) b=if b=a then (if done then none else n) else fd l b:=by
 induction l with
 | nil =>
  intro done b
  cases done with
  | true=>simp[setL,fd]
  | false =>
   simp only[setL,Bool.false_eq_true,if_false]
   rw[fd_one]
   by_cases h:b=a <;> simp[h,fd]
 | cons r l ih =>
  intro done b
  simp only[setL]
  rw[fd_app,fd_app,ih]
  by_cases hb:b=a
  ·subst hb
   have h2:fd (if r.1=b then [] else [r]) b=none:=by
    by_cases h:r.1=b <;> simp[h,fd]
   rw[h2]
   cases done with
   | true=>simp[fd]
   | false =>
    cases hg:ge r.1 b with
    | true =>
     simp only[Bool.not_false,Bool.true_and,if_true,Bool.or_true]
     rw[fd_one]
     cases n <;> simp
    | false=>simp[fd]
  ·have h1:fd (if (!done && ge r.1 a)=true then n.toList.map fun k=>(a,k) else []) b=none:=by
    split
    ·rw[fd_one];simp[hb]
    ·rfl
   rw[h1]
   by_cases hr:r.1=a
   ·have hrb:¬ r.1=b:=by rw[hr];exact fun hh=>hb hh.symm
    simp[hr,hb,fd]
    intro hh;exact absurd hh.symm hb
   ·by_cases hrb:r.1=b
    ·simp[hb,fd,hrb]
    ·simp[hr,hb,fd,hrb]
structure Ch (α κ ε:Type) where
 pre:List α
 last:α
 new:Option κ
 e:ε
def stp (m:Tb α κ ε) (c:Ch α κ ε):Tb α κ ε :=
 match c.new with
 | some k=>(c.pre++[c.last]).foldl (fun m a=>logT m a c.e) (putT m c.last k)
 | none=>c.pre.foldl (fun m a=>logT m a c.e) (delT m c.last)
def ents (c:Ch α κ ε):List (α × ε):=(c.pre++[c.last]).map fun a=>(a,c.e)
def prn (r:List (α × κ)) (l:List (α × ε)):List (α × ε):=l.filter fun e=>(fd r e.1).isSome
theorem lg_prn (r:List (α × κ)) (l:List (α × ε)) (a:α):lg (prn r l) a=if (fd r a).isSome then lg l a else []:=by
 induction l with
 | nil=>cases h:(fd r a).isSome <;> simp[prn,lg]
 | cons x l ih =>
  have hx:prn r (x :: l)=if (fd r x.1).isSome then x :: prn r l else prn r l:=by
   simp[prn,List.filter_cons]
  rw[hx]
  by_cases hxa:x.1=a
  ·subst hxa
   cases h:(fd r x.1).isSome with
   | true=>simp[lg_cons,ih,h]
   | false=>simp[ih,h]
  ·cases h:(fd r x.1).isSome with
   | true=>simp[lg_cons,ih,hxa]
   | false=>simp[ih,lg_cons,hxa]
theorem own_prn (r:List (α × κ)) (l:List (α × ε)):∀ e ∈ prn r l,fd r e.1 ≠ none:=by
 intro e he h
 simp[prn,h] at he
theorem R.logs {r:List (α × κ)} (e:ε):∀ (ns:List α) (l:List (α × ε)) (m:Tb α κ ε),R ⟨r,l⟩ m->(∀ a ∈ ns,fd r a ≠ none) →
  R ⟨r,l++ns.map fun a=>(a,e)⟩ (ns.foldl (fun m a=>logT m a e) m):=by
 intro ns
 induction ns with
 | nil=>intro l m h _;simpa using h
 | cons a ns ih =>
  intro l m h hn
  have h1:=h.log a e (hn a (by simp))
  have h2:=ih (l++[(a,e)]) (logT m a e) h1 (fun b hb=>hn b (by simp[hb]))
  simpa using h2
theorem R.stp {r r':List (α × κ)} {l:List (α × ε)} {m:Tb α κ ε} (c:Ch α κ ε) (h:R ⟨r,prn r l⟩ m)
  (hr:∀ b,fd r' b=if b=c.last then c.new else fd r b)
  (hp:∀ a ∈ c.pre,a ≠ c.last/\fd r a ≠ none)
  (hn:fd r c.last=none->∀ e ∈ l,e.1 ≠ c.last):R ⟨r',prn r' (l++ents c)⟩ (Rk.stp m c):=by
 have hpre:∀ a ∈ c.pre,fd r' a ≠ none:=by
  intro a ha
  rw[hr]
  simp only[(hp a ha).1,if_false]
  exact(hp a ha).2
 have hlast:fd r' c.last=c.new:=by rw[hr];simp
 unfold Rk.stp
 cases hc:c.new with
 | some k =>
  have h1:R ⟨r',prn r l⟩ (putT m c.last k):=R.put h c.last k r' (fun b=>by rw[hr,hc])
  have h2:=R.logs c.e (c.pre++[c.last]) (prn r l) _ h1 (by
   intro a ha
   rcases List.mem_append.mp ha with ha | ha
   ·exact hpre a ha
   ·simp only[List.mem_singleton] at ha
    subst ha
    rw[hlast,hc];simp)
  refine R.perm h2 _ (fun a=>?_) (own_prn _ _)
  show lg (prn r' (l++ents c)) a=lg (prn r l++ents c) a
  rw[lg_prn,lg_app,lg_app,lg_prn,hr]
  by_cases ha:a=c.last
  ·subst ha
   simp only[if_true,hc,Option.isSome_some]
   cases hf:fd r c.last with
   | some q=>simp
   | none =>
    have:lg l c.last=[]:=by
     simp only[lg,List.map_eq_nil_iff,List.filter_eq_nil_iff,decide_eq_true_eq]
     exact fun e he=>hn hf e he
    simp[this]
  ·simp only[ha,if_false]
   cases hf:fd r a with
   | some q=>simp
   | none =>
    have:lg (ents c) a=[]:=by
     simp only[lg,List.map_eq_nil_iff,List.filter_eq_nil_iff,decide_eq_true_eq]
     intro e he hea
     simp only[ents,List.mem_map,List.mem_append,List.mem_singleton] at he
     obtain⟨b,hb,rfl⟩:=he
     rcases hb with hb | hb
     ·exact(hp b hb).2 (by rw[show b=a from hea];exact hf)
     ·exact ha (by rw[<-hea];exact hb)
    simp[this]
 | none =>
  have h1:R ⟨r',(prn r l).filter fun e=>decide (e.1 ≠ c.last)⟩ (delT m c.last):=R.del h c.last r' (fun b=>by rw[hr,hc])
  have h2:=R.logs c.e c.pre _ _ h1 hpre
  refine R.perm h2 _ (fun a=>?_) (own_prn _ _)
  show lg (prn r' (l++ents c)) a=lg ((prn r l).filter (fun e=>decide (e.1 ≠ c.last))++c.pre.map fun a=>(a,c.e)) a
  rw[lg_prn,lg_app,lg_app,hr]
  by_cases ha:a=c.last
  ·subst ha
   have e1:lg ((prn r l).filter fun e=>decide (e.1 ≠ c.last)) c.last=[]:=by
    simp only[lg,List.map_eq_nil_iff,List.filter_eq_nil_iff,decide_eq_true_eq,List.mem_filter]
    exact fun e he=>he.2
   have e2:lg (c.pre.map fun a=>(a,c.e)) c.last=[]:=by
    simp only[lg,List.map_eq_nil_iff,List.filter_eq_nil_iff,decide_eq_true_eq,List.mem_map]
    rintro e ⟨b,hb,rfl⟩
    exact(hp b hb).1
   rw[e1,e2]
   simp[hc]
  ·simp only[ha,if_false]
   have e1:lg ((prn r l).filter fun e=>decide (e.1 ≠ c.last)) a=lg (prn r l) a:=by
    simp only[lg,List.filter_filter]
    congr 1
    apply List.filter_congr
    intro e _
    by_cases hea:e.1=a
    ·simp[hea,ha]
    ·simp[hea]
   have e2:lg (ents c) a=lg (c.pre.map fun a=>(a,c.e)) a:=by
    have hla:¬ c.last=a:=fun hh=>ha hh.symm
    simp only[ents,List.map_append,List.map_cons,List.map_nil]
    rw[lg_app]
    simp[lg_cons,hla,lg_nil]
   rw[e1,e2,lg_prn]
   cases hf:fd r a with
   | some q=>simp
   | none =>
    have:lg (c.pre.map fun a=>(a,c.e)) a=[]:=by
     simp only[lg,List.map_eq_nil_iff,List.filter_eq_nil_iff,decide_eq_true_eq,List.mem_map]
     rintro e ⟨b,hb,rfl⟩ hea
     exact(hp b hb).2 (by rw[show b=a from hea];exact hf)
    simp[this]
theorem R.all (ge:α->α->Bool):∀ (cs:List (Ch α κ ε)) (r:List (α × κ)) (l:List (α × ε)) (m:Tb α κ ε),R ⟨r,prn r l⟩ m →
  (∀ c ∈ cs,∀ a ∈ c.pre,fd r a ≠ none/\∀ c' ∈ cs,a ≠ c'.last)->(cs.Pairwise fun c c'=>c.last ≠ c'.last) →
  (∀ c ∈ cs,fd r c.last=none->∀ e ∈ l,e.1 ≠ c.last) →
  R ⟨cs.foldl (fun r c=>setL ge c.last c.new r c.new.isNone) r,
   prn (cs.foldl (fun r c=>setL ge c.last c.new r c.new.isNone) r) (l++cs.flatMap ents)⟩ (cs.foldl Rk.stp m):=by
 intro cs
 induction cs with
 | nil=>intro r l m h _ _ _;simpa using h
 | cons c cs ih =>
  intro r l m h hp hd hn
  have hr:∀ b,fd (setL ge c.last c.new r c.new.isNone) b=if b=c.last then c.new else fd r b:=by
   intro b
   rw[fd_setL]
   cases c.new <;> simp
  have h1:=R.stp c h hr (fun a ha=>⟨(hp c (by simp) a ha).2 c (by simp),(hp c (by simp) a ha).1⟩) (hn c (by simp))
  rw[List.pairwise_cons] at hd
  have h2:=ih _ (l++ents c) _ h1
   (fun c' hc' a ha=>by
    have q:=hp c' (by simp[hc']) a ha
    refine⟨?_,fun c'' hc''=>q.2 c'' (by simp[hc''])⟩
    rw[hr]
    simp only[q.2 c (by simp),if_false]
    exact q.1)
   hd.2
   (fun c' hc' hf e he=>by
    have hne:¬ c'.last=c.last:=fun hh=>hd.1 c' hc' hh.symm
    rw[hr] at hf
    simp only[hne,if_false] at hf
    rcases List.mem_append.mp he with he | he
    ·exact hn c' (by simp[hc']) hf e he
    ·simp only[ents,List.mem_map,List.mem_append,List.mem_singleton] at he
     obtain⟨b,hb,rfl⟩:=he
     rcases hb with hb | hb
     ·exact(hp c (by simp) b hb).2 c' (by simp[hc'])
     ·show b ≠ c'.last
      rw[hb]
      exact fun hh=>hne hh.symm)
  simpa using h2
end Go.Proofs.YtgliaiemkfopeaaGreatDoor.Rk
#print axioms Go.Proofs.YtgliaiemkfopeaaGreatDoor.Rk.R.all
namespace Go.Proofs.YtgliaiemkfopeaaGreatDoor.Rk
variable {α κ ε : Type} [DecidableEq α]
abbrev St (α κ ε:Type):=α × (κ ⊕ (Unit ⊕ ε))
def tk (m:Tb α κ ε) (s:St α κ ε):Tb α κ ε :=
 match s.2 with
 | .inl k=>putT m s.1 k
 | .inr (.inl _)=>delT m s.1
 | .inr (.inr e)=>logT m s.1 e
def chS (c:Ch α κ ε):List (St α κ ε) :=
 match c.new with
 | some k=>(c.last,.inl k) :: (c.pre++[c.last]).map fun a=>(a,.inr (.inr c.e))
 | none=>(c.last,.inr (.inl ())) :: c.pre.map fun a=>(a,.inr (.inr c.e))
theorem tk_chS (c:Ch α κ ε) (m:Tb α κ ε):(chS c).foldl tk m=stp m c:=by
 unfold chS stp
 cases c.new with
 | some k=>simp only[List.foldl_cons,List.foldl_map];rfl
 | none=>simp only[List.foldl_cons,List.foldl_map];rfl
theorem tk_all (cs:List (Ch α κ ε)):∀ m:Tb α κ ε,(cs.flatMap chS).foldl tk m=cs.foldl stp m:=by
 induction cs with
 | nil=>intro m;rfl
 | cons c cs ih=>intro m;simp only[List.flatMap_cons,List.foldl_append,List.foldl_cons,tk_chS,ih]
def tab:List (α × κ × List ε)->Tb α κ ε
 | [],_=>none
 | x :: l,a=>if x.1=a then some x.2 else tab l a
def tS (t:List (α × κ × List ε)):List (St α κ ε) :=
 t.flatMap fun x=>(x.1,.inl x.2.1) :: x.2.2.map fun e=>(x.1,.inr (.inr e))
theorem fold_log (a:α) (k:κ):∀ (es es0:List ε) (m:Tb α κ ε),m a=some (k,es0) →
  (es.map fun e=>((a,.inr (.inr e)):St α κ ε)).foldl tk m=fun b=>if b=a then some (k,es0++es) else m b:=by
 intro es
 induction es with
 | nil =>
  intro es0 m h
  funext b
  by_cases hb:b=a
  ·subst hb;simp[h]
  ·simp[hb]
 | cons e es ih =>
  intro es0 m h
  have h1:tk m (a,.inr (.inr e))=logT m a e:=rfl
  simp only[List.map_cons,List.foldl_cons,h1]
  rw[ih (es0++[e]) (logT m a e) (by simp[logT,h])]
  funext b
  by_cases hb:b=a
  ·subst hb;simp
  ·simp[hb,logT]
theorem tab_none (t:List (α × κ × List ε)) (a:α) (h:∀ x ∈ t,x.1 ≠ a):tab t a=none:=by
 induction t with
 | nil=>rfl
 | cons x t ih =>
  simp only[tab,h x (by simp),if_false]
  exact ih fun y hy=>h y (by simp[hy])
theorem tS_back:∀ (t:List (α × κ × List ε)) (m:Tb α κ ε),(t.Pairwise fun x y=>x.1 ≠ y.1)->(∀ x ∈ t,m x.1=none) →
  (tS t).foldl tk m=fun b=>(tab t b).or (m b):=by
 intro t
 induction t with
 | nil=>intro m _ _;funext b;simp[tS,tab]
 | cons x t ih =>
  intro m hd hm
  rw[List.pairwise_cons] at hd
  have h0:tS (x :: t)=((x.1,.inl x.2.1) :: x.2.2.map fun e=>(x.1,.inr (.inr e)))++tS t:=by simp[tS]
  have h1:tk m (x.1,.inl x.2.1)=putT m x.1 x.2.1:=rfl
  rw[h0,List.foldl_append,List.foldl_cons,h1,fold_log x.1 x.2.1 x.2.2 [] (putT m x.1 x.2.1) (by simp[putT,hm x (by simp)])]
  rw[ih _ hd.2 (fun y hy=>by
   have hne:¬ y.1=x.1:=fun hh=>hd.1 y hy hh.symm
   simp[hne,putT,hm y (by simp[hy])])]
  funext b
  by_cases hb:x.1=b
  ·subst hb
   simp[tab,tab_none t x.1 (fun y hy=>fun hh=>hd.1 y hy hh.symm)]
  ·have hb':¬ b=x.1:=fun hh=>hb hh.symm
   simp[tab,hb,hb',putT]
def exL (a:α):Nat->List (α × ε)->List (α × ε)
 | _,[]=>[]
 | n,x :: l=>if x.1=a then (match n with | 0=>x :: exL a 0 l | n+1=>exL a n l) else x :: exL a n l
theorem lg_exL (a b:α):∀ (l:List (α × ε)) (n:Nat),lg (exL a n l) b=if b=a then (lg l a).drop n else lg l b:=by
 intro l
 induction l with
 | nil=>intro n;cases n <;> by_cases hb:b=a <;> simp[exL,lg,hb]
 | cons x l ih =>
  intro n
  by_cases hx:x.1=a
  ·cases n with
   | zero =>
    simp only[exL,hx,if_true]
    rw[lg_cons,ih]
    by_cases hb:b=a
    ·subst hb;simp[lg_cons,hx]
    ·have hb':¬ a=b:=fun hh=>hb hh.symm
     simp[lg_cons,hx,hb,hb']
   | succ n =>
    simp only[exL,hx,if_true]
    rw[ih]
    by_cases hb:b=a
    ·subst hb;simp[lg_cons,hx]
    ·have hb':¬ a=b:=fun hh=>hb hh.symm
     simp[lg_cons,hx,hb,hb']
  ·have h0:exL a n (x :: l)=x :: exL a n l:=by cases n <;> simp[exL,hx]
   rw[h0,lg_cons,ih]
   by_cases hb:b=a
   ·subst hb;simp[lg_cons,hx]
   ·simp[lg_cons,hb]
theorem mem_exL (a:α):∀ (l:List (α × ε)) (n:Nat) (e:α × ε),e ∈ exL a n l->e ∈ l:=by
 intro l
 induction l with
 | nil=>intro n e h;cases n <;> simp[exL] at h
 | cons x l ih =>
  intro n e h
  by_cases hx:x.1=a
  ·cases n with
   | zero =>
    simp only[exL,hx,if_true,List.mem_cons] at h ⊢
    rcases h with h | h
    ·exact .inl h
    ·exact .inr (ih 0 e h)
   | succ n =>
    simp only[exL,hx,if_true] at h
    exact List.mem_cons_of_mem _ (ih n e h)
  ·have h0:exL a n (x :: l)=x :: exL a n l:=by cases n <;> simp[exL,hx]
   rw[h0,List.mem_cons] at h
   rcases h with h | h
   ·rw[h];exact List.mem_cons_self ..
   ·exact List.mem_cons_of_mem _ (ih n e h)
theorem R.expire {d:Dc α κ ε} {m:Tb α κ ε} (h:R d m) (a:α) (n:Nat) :
  R ⟨d.refs,exL a n d.logs⟩ (fun b=>if b=a then (m a).map fun x=>(x.1,x.2.drop n) else m b):=by
 refine⟨fun b q hb=>?_,fun b hb=>?_,fun e he=>h.own e (mem_exL a _ _ e he)⟩
 ·show _=some (q,lg (exL a n d.logs) b)
  rw[lg_exL]
  by_cases hba:b=a
  ·subst hba;simp[h.some_ b q hb]
  ·simp[hba,h.some_ b q hb]
 ·by_cases hba:b=a
  ·subst hba;simp[h.none_ b hb]
  ·simp[hba,h.none_ b hb]
def wy (tg:κ->Option α) (f:α->Option κ):Nat->α->Option (List α)
 | n,a =>
  match (f a).bind tg with
  | none=>some [a]
  | some b=>match n with
   | 0=>none
   | n+1=>(wy tg f n b).map (a :: ·)
theorem wy_pre {β γ:Type} (tg:γ->Option β) (f:β->Option γ):∀ (n:Nat) (a:β) (w:List β),wy tg f n a=some w →
  ∃ p z,w=p++[z]/\(∀ b ∈ p,(f b).bind tg ≠ none)/\(f z).bind tg=none:=by
 intro n
 induction n with
 | zero =>
  intro a w h
  unfold wy at h
  cases hb:(f a).bind tg with
  | none =>
   rw[hb] at h
   simp only[Option.some.injEq] at h
   exact⟨[],a,by simp[<-h],by simp,hb⟩
  | some b=>rw[hb] at h;simp at h
 | succ n ih =>
  intro a w h
  unfold wy at h
  cases hb:(f a).bind tg with
  | none =>
   rw[hb] at h
   simp only[Option.some.injEq] at h
   exact⟨[],a,by simp[<-h],by simp,hb⟩
  | some b =>
   rw[hb] at h
   simp only[Option.map_eq_some_iff] at h
   obtain⟨w',hw,rfl⟩:=h
   obtain⟨p,z,rfl,hp,hz⟩:=ih b w' hw
   refine⟨a :: p,z,by simp,?_,hz⟩
   intro x hx
   rcases List.mem_cons.mp hx with hx | hx
   ·rw[hx,hb];simp
   ·exact hp x hx
end Go.Proofs.YtgliaiemkfopeaaGreatDoor.Rk
#print axioms Go.Proofs.YtgliaiemkfopeaaGreatDoor.Rk.tS_back
#print axioms Go.Proofs.YtgliaiemkfopeaaGreatDoor.Rk.R.expire
#print axioms Go.Proofs.YtgliaiemkfopeaaGreatDoor.Rk.wy_pre
namespace Go.Proofs.YtgliaiemkfopeaaGreatDoor.Rk
variable {α κ ε : Type} [DecidableEq α]
theorem mem_setL (ge:α->α->Bool) (a:α) (n:Option κ) (l:List (α × κ)):∀ (done:Bool) (x:α × κ),x ∈ setL ge a n l done->x.1=a ∨ x ∈ l:=by
 have hone:∀ x:α × κ,(x ∈ n.toList.map fun k=>(a,k))->x.1=a:=by
  intro x hx
  obtain⟨k,_,rfl⟩:=List.mem_map.mp hx
  rfl
 induction l with
 | nil =>
  intro done x hx
  cases done with
  | true=>simp[setL] at hx
  | false =>
   simp only[setL,Bool.false_eq_true,if_false] at hx
   exact .inl (hone x hx)
 | cons r l ih =>
  intro done x hx
  simp only[setL] at hx
  rcases List.mem_append.mp hx with hx | hx
  ·split at hx
   ·exact .inl (hone x hx)
   ·simp at hx
  ·rcases List.mem_append.mp hx with hx | hx
   ·split at hx
    ·simp at hx
    ·simp only[List.mem_singleton] at hx
     exact .inr (by rw[hx];exact List.mem_cons_self ..)
   ·rcases ih _ x hx with h | h
    ·exact .inl h
    ·exact .inr (List.mem_cons_of_mem _ h)
theorem setL_done (ge:α->α->Bool) (a:α) (n:Option κ) (l:List (α × κ)):setL ge a n l true=l.filter fun x=>decide (x.1 ≠ a):=by
 induction l with
 | nil=>simp[setL]
 | cons r l ih =>
  simp only[setL,Bool.not_true,Bool.false_and,Bool.false_eq_true,if_false,List.nil_append,Bool.true_or,ih]
  by_cases h:r.1=a <;> simp[h]
theorem setL_rising (lt:α->α->Prop) (ge:α->α->Bool) (hge:∀ x y,ge x y=true ↔ ¬ lt x y)
  (hirr:∀ x,¬ lt x x) (htr:∀ x y z,lt x y->lt y z->lt x z) (htot:∀ x y,¬ lt x y->x ≠ y->lt y x) (a:α) (n:Option κ) (l:List (α × κ)) :
  ∀ done,(l.Pairwise fun x y=>lt x.1 y.1)->(setL ge a n l done).Pairwise fun x y=>lt x.1 y.1:=by
 induction l with
 | nil =>
  intro done _
  cases done <;> cases n <;> simp[setL]
 | cons r l ih =>
  intro done h
  cases done with
  | true =>
   rw[setL_done]
   exact h.filter _
  | false =>
   rw[List.pairwise_cons] at h
   cases hg:ge r.1 a with
   | true =>
    have hra:¬ lt r.1 a:=(hge _ _).1 hg
    have hrest:setL ge a n (r :: l) false=(n.toList.map fun k=>(a,k))++(r :: l).filter fun x=>decide (x.1 ≠ a):=by
     simp only[setL,hg,Bool.not_false,Bool.true_and,if_true,Bool.or_true,setL_done]
     by_cases hr:r.1=a <;> simp[hr]
    have hf:((r :: l).filter fun x=>decide (x.1 ≠ a)).Pairwise fun x y=>lt x.1 y.1:=(List.pairwise_cons.2 h).filter _
    have hlow:∀ y ∈ (r :: l).filter (fun x=>decide (x.1 ≠ a)),lt a y.1:=by
     intro y hy
     simp only[List.mem_filter,decide_eq_true_eq] at hy
     rcases List.mem_cons.mp hy.1 with hyr | hyl
     ·rw[hyr] at hy ⊢
      exact htot _ _ hra hy.2
     ·by_cases hr:r.1=a
      ·rw[<-hr];exact h.1 y hyl
      ·exact htr _ _ _ (htot _ _ hra hr) (h.1 y hyl)
    rw[hrest]
    cases n with
    | none=>simpa using hf
    | some k =>
     simp only[Option.toList_some,List.map_cons,List.map_nil,List.singleton_append,List.pairwise_cons]
     exact⟨hlow,hf⟩
   | false =>
    have hra:lt r.1 a:=by
     apply Classical.byContradiction
     intro hh
     rw[(hge r.1 a).2 hh] at hg
     cases hg
    have hne:¬ r.1=a:=by
     intro hh
     rw[hh] at hra
     exact hirr a hra
    simp only[setL,hg,Bool.not_false,Bool.true_and,Bool.false_eq_true,if_false,List.nil_append,Bool.or_false,hne,List.singleton_append,List.pairwise_cons]
    refine⟨fun y hy=>?_,ih false h.2⟩
    rcases mem_setL ge a n l false y hy with h1 | h1
    ·rw[h1];exact hra
    ·exact h.1 y h1
theorem rising_one {β:Type} (lt:β->β->Prop) (hirr:∀ x,¬ lt x x) (htr:∀ x y z,lt x y->lt y z->lt x z) :
  ∀ (l m:List β),l.Pairwise lt->m.Pairwise lt->(∀ x,x ∈ l ↔ x ∈ m)->l=m:=by
 intro l
 induction l with
 | nil =>
  intro m _ _ h
  cases m with
  | nil=>rfl
  | cons y m=>exact absurd ((h y).2 (List.mem_cons_self ..)) (by simp)
 | cons x l ih =>
  intro m hl hm h
  cases m with
  | nil=>exact absurd ((h x).1 (List.mem_cons_self ..)) (by simp)
  | cons y m =>
   rw[List.pairwise_cons] at hl hm
   have hxy:x=y:=by
    rcases List.mem_cons.mp ((h x).1 (List.mem_cons_self ..)) with h1 | h1
    ·exact h1
    ·rcases List.mem_cons.mp ((h y).2 (List.mem_cons_self ..)) with h2 | h2
     ·exact h2.symm
     ·exact absurd (htr _ _ _ (hl.1 y h2) (hm.1 x h1)) (hirr x)
   subst hxy
   refine congrArg (x :: ·) (ih m hl.2 hm.2 fun z=>⟨fun hz=>?_,fun hz=>?_⟩)
   ·rcases List.mem_cons.mp ((h z).1 (List.mem_cons_of_mem _ hz)) with h1 | h1
    ·rw[h1] at hz
     exact absurd (hl.1 x hz) (hirr x)
    ·exact h1
   ·rcases List.mem_cons.mp ((h z).2 (List.mem_cons_of_mem _ hz)) with h1 | h1
    ·rw[h1] at hz
     exact absurd (hm.1 x hz) (hirr x)
    ·exact h1
theorem fd_mem (l:List (α × κ)) (a:α):fd l a ≠ none ↔ a ∈ l.map (·.1):=by
 induction l with
 | nil=>simp[fd]
 | cons x l ih =>
  by_cases h:x.1=a
  ·simp[fd,h]
  ·have h':¬ a=x.1:=fun hh=>h hh.symm
   simp only[fd,h,if_false,ih,List.map_cons,List.mem_cons,h',false_or]
theorem R.names {d:Dc α κ ε} {m:Tb α κ ε} (h:R d m) (lt:α->α->Prop) (hirr:∀ x,¬ lt x x) (htr:∀ x y z,lt x y->lt y z->lt x z)
  (hd:d.refs.Pairwise fun x y=>lt x.1 y.1) (ns:List α) (hn:ns.Pairwise lt) (hm:∀ a,a ∈ ns ↔ m a ≠ none):ns=d.refs.map (·.1):=by
 refine rising_one lt hirr htr _ _ hn (List.pairwise_map.2 hd) fun a=>?_
 rw[hm,<-fd_mem,h.at a]
 cases fd d.refs a <;> simp
end Go.Proofs.YtgliaiemkfopeaaGreatDoor.Rk
#print axioms Go.Proofs.YtgliaiemkfopeaaGreatDoor.Rk.setL_rising
#print axioms Go.Proofs.YtgliaiemkfopeaaGreatDoor.Rk.R.names
