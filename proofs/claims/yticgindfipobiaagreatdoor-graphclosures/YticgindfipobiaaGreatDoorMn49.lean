import Derived.Test.YticgindfipobiaaGreatDoorMn09
import Derived.Test.YticgindfipobiaaGreatDoorMn48
set_option linter.unusedSimpArgs false
set_option linter.unusedVariables false
set_option maxRecDepth 20000
set_option maxHeartbeats 4000000
namespace Go.Proofs.YticgindfipobiaaGreatDoor
open Go.RowKit Go.Extern.Stop Go.Stop Go.Extern
theorem typeOf75 (v:Value) (w:World):(ReflectliteType.typeOf #[.iface 75 v]).run Tryz.prog w=.ok (.iface 129 (.agg #[.pointer (some ⟨9,75,none⟩)])) w:=by kernel_rfl
theorem assignable75 (w:World):(ReflectliteType.relation "AssignableTo" ReflectliteType.assignableTo #[.agg #[.pointer (some ⟨9,75,none⟩)],.iface 129 (.agg #[.pointer (some ⟨9,43,none⟩)])]).run Tryz.prog w=.ok (.bool false) w:=by kernel_rfl
theorem no134 (v:Value) (xT:TypeId) (w:World):(Instr.typeAssert (.iface 75 v) xT 134 true).run Tryz.prog w=.ok (.tuple #[.nilIface,.bool false]) w:=run_typeAssert_lacksB Tryz.underlying134 (by kernel_rfl) (by kernel_rfl) v xT w
theorem is137 (v:Value) (xT:TypeId) (w:World):(Instr.typeAssert (.iface 75 v) xT 137 true).run Tryz.prog w=.ok (.tuple #[.iface 75 v,.bool true]) w:=run_typeAssert_hasB Tryz.underlying137 (by kernel_rfl) v xT w
theorem methodUnwrap (v:Value) (w:World):(Go.method 458 75 v "Unwrap").run Tryz.prog w=.ok (261,v) w:=by kernel_rfl
set_option maxRecDepth 100000 in
theorem as_wrap (g:Nat) (k:Int) (t:Addr) (old:Value) (w:World) (hg:w.cell? ⟨0,0,none⟩=some (.iface 129 (.agg #[.pointer (some ⟨9,35,none⟩)]))) (ht0:w.cell? t=some old) (hf0:w.frozen? t=false) (hc:w.cell? ⟨g,20,none⟩=some (.int .i64 k)) :
  Calls Tryz.prog 18 #[.iface 75 (.pointer (some ⟨g,0,none⟩)),.iface 60 (.pointer (some t))] w fun ev w'=>ev=.returned (.bool true)/\w'=((((w.alloc (.cells #[.pointer (some t)] 60)).alloc (.cells #[.pointer (some ⟨9,60,none⟩),.pointer (some ⟨w.heap.size,0,none⟩),.int .u64 150] 89)).alloc (.cells #[.pointer (some ⟨9,60,none⟩),.pointer (some ⟨w.heap.size,0,none⟩),.int .u64 150] 89)).alloc (.cells #[.int .i64 k] 43)).setCell t (.int .i64 k):=by
 have h33:=@run_callFunc_extern Tryz.prog 30 _ (fun args=>ReflectliteValue.unpack (args.getD 0 (.tuple #[]))) Tryz.func30 (by kernel_rfl) (by kernel_rfl) (by kernel_rfl) (by kernel_rfl)
 have h34:=@run_callFunc_extern Tryz.prog 31 _ (ReflectliteValue.methodAny (ReflectliteValue.valueError "reflectlite.Value.Type" 0) (fun t _ _ _=>ReflectliteType.toType t)) Tryz.func31 (by kernel_rfl) (by kernel_rfl) (by kernel_rfl) (by kernel_rfl)
 have h35:=@run_callFunc_extern Tryz.prog 32 _ (ReflectliteValue.method (ReflectliteValue.valueError "reflectlite.Value.IsNil" 0) ReflectliteValue.isNil) Tryz.func32 (by kernel_rfl) (by kernel_rfl) (by kernel_rfl) (by kernel_rfl)
 have h97:=@run_callFunc_extern Tryz.prog 256 _ (ReflectliteType.abiMethod fun t=>do pure (.int .u8 (<-Rtype.kind t))) Tryz.func256 (by kernel_rfl) (by kernel_rfl) (by kernel_rfl) (by kernel_rfl)
 have h107:=@run_callFunc_extern Tryz.prog 268 _ (ReflectliteType.method ReflectliteType.elem) Tryz.func268 (by kernel_rfl) (by kernel_rfl) (by kernel_rfl) (by kernel_rfl)
 have h108:=@run_callFunc_extern Tryz.prog 269 _ (ReflectliteType.relation "Implements" ReflectliteType.implements_) Tryz.func269 (by kernel_rfl) (by kernel_rfl) (by kernel_rfl) (by kernel_rfl)
 have h62:=@run_callFunc_extern Tryz.prog 51 _ ReflectliteType.typeOf Tryz.func51 (by kernel_rfl) (by kernel_rfl) (by kernel_rfl) (by kernel_rfl)
 have h105:=@run_callFunc_extern Tryz.prog 266 _ (ReflectliteType.relation "AssignableTo" ReflectliteType.assignableTo) Tryz.func266 (by kernel_rfl) (by kernel_rfl) (by kernel_rfl) (by kernel_rfl)
 have h63:=@run_callFunc_extern Tryz.prog 52 _ (ReflectliteValue.method (ReflectliteValue.valueError "reflectlite.Value.Elem" 0) ReflectliteValue.elem) Tryz.func52 (by kernel_rfl) (by kernel_rfl) (by kernel_rfl) (by kernel_rfl)
 have h64:=@run_callFunc_extern Tryz.prog 53 _ ReflectliteValue.set Tryz.func53 (by kernel_rfl) (by kernel_rfl) (by kernel_rfl) (by kernel_rfl)
 have tO:=typeOf32
 have tO5:=typeOf75
 have a75:=assignable75
 have n134:=no134
 have i137:=is137
 have mU:=methodUnwrap
 have hgl:g<w.heap.size:=by
  rcases Nat.lt_or_ge g w.heap.size with h | h
  ·exact h
  ·simp[World.cell?,Array.getElem?_eq_none h] at hc
 have hc2:(((w.alloc (.cells #[.pointer (some t)] 60)).alloc (.cells #[.pointer (some ⟨9,60,none⟩),.pointer (some ⟨w.heap.size,0,none⟩),.int .u64 150] 89)).alloc (.cells #[.pointer (some ⟨9,60,none⟩),.pointer (some ⟨w.heap.size,0,none⟩),.int .u64 150] 89)).cell? ⟨g,20,none⟩=some (.int .i64 k):=by
  rw[World.cell?_alloc_lt _ _ ⟨g,20,none⟩ (by simp;omega),World.cell?_alloc_lt _ _ ⟨g,20,none⟩ (by simp;omega),World.cell?_alloc_lt _ _ ⟨g,20,none⟩ hgl];exact hc
 have mA:=jX
 have a32:=V7
 have v32:=valueOf32
 have f6:=valueOf45
 have f7:=type45
 have mK:=methodKind
 have mE:=methodElem
 have mI:=Zj
 have k45:=kind45
 have k32:=kind32
 have e45:=elem45
 have i32:=V6
 have n8:=isNil45 ⟨w.heap.size,0,none⟩ t ((w.alloc (.cells #[.pointer (some t)] 60)).alloc (.cells #[.pointer (some ⟨9,60,none⟩),.pointer (some ⟨w.heap.size,0,none⟩),.int .u64 150] 89)) (by simp)
 have hlt:0<w.heap.size:=by
  rcases Nat.lt_or_ge 0 w.heap.size with h | h
  ·exact h
  ·simp[World.cell?,Array.getElem?_eq_none h] at hg
 have hg2:((w.alloc (.cells #[.pointer (some t)] 60)).alloc (.cells #[.pointer (some ⟨9,60,none⟩),.pointer (some ⟨w.heap.size,0,none⟩),.int .u64 150] 89)).cell? ⟨0,0,none⟩=some (.iface 129 (.agg #[.pointer (some ⟨9,35,none⟩)])):=by
  rw[World.cell?_alloc_lt _ _ ⟨0,0,none⟩ (by simp),World.cell?_alloc_lt _ _ ⟨0,0,none⟩ hlt];exact hg
 have htl:t.block<w.heap.size:=by
  rcases Nat.lt_or_ge t.block w.heap.size with h | h
  ·exact h
  ·simp[World.cell?,Array.getElem?_eq_none h] at ht0
 have el:=elemV45 ⟨w.heap.size,0,none⟩ t (((w.alloc (.cells #[.pointer (some t)] 60)).alloc (.cells #[.pointer (some ⟨9,60,none⟩),.pointer (some ⟨w.heap.size,0,none⟩),.int .u64 150] 89)).alloc (.cells #[.pointer (some ⟨9,60,none⟩),.pointer (some ⟨w.heap.size,0,none⟩),.int .u64 150] 89)) (by rw[World.cell?_alloc_lt _ _ ⟨w.heap.size,0,none⟩ (by simp;omega)];simp)
 have st:=set32 t ⟨w.heap.size+1+1+1,0,none⟩ k old ((((w.alloc (.cells #[.pointer (some t)] 60)).alloc (.cells #[.pointer (some ⟨9,60,none⟩),.pointer (some ⟨w.heap.size,0,none⟩),.int .u64 150] 89)).alloc (.cells #[.pointer (some ⟨9,60,none⟩),.pointer (some ⟨w.heap.size,0,none⟩),.int .u64 150] 89)).alloc (.cells #[.int .i64 k] 43))
  (by rw[World.cell?_alloc_at _ _ _ _ (by simp)];rfl)
  (by rw[World.cell?_alloc_lt _ _ t (by simp;omega),World.cell?_alloc_lt _ _ t (by simp;omega),World.cell?_alloc_lt _ _ t (by simp;omega),World.cell?_alloc_lt _ _ t htl];exact ht0)
  (by rw[World.frozen?_alloc_old _ _ t (by simp;omega),World.frozen?_alloc_old _ _ t (by simp;omega),World.frozen?_alloc_old _ _ t (by simp;omega),World.frozen?_alloc_old _ _ t (Nat.ne_of_lt htl)];exact hf0)
 go_enter Tryz.func18,Tryz.ntmps18
 go_wp2
 refine wp_loop_rounds 2 ?_
 rw[rounds_succ]
 go_wp2
 rw[rounds_succ]
 go_wp2
 go_ret
 exact⟨rfl,rfl⟩
theorem tell_wrap (g:Nat) (k:Int) (w:World) (hg:w.cell? ⟨0,0,none⟩=some (.iface 129 (.agg #[.pointer (some ⟨9,35,none⟩)]))) (hc:w.cell? ⟨g,20,none⟩=some (.int .i64 k)) :
  Calls Tryz.prog 9 #[.iface 75 (.pointer (some ⟨g,0,none⟩))] w fun e w'=>e=.returned (.int .i64 k)/\Below w.heap.size w w':=by
 have hlt:0<w.heap.size:=by
  rcases Nat.lt_or_ge 0 w.heap.size with h | h
  ·exact h
  ·simp[World.cell?,Array.getElem?_eq_none h] at hg
 have hgl:g<w.heap.size:=by
  rcases Nat.lt_or_ge g w.heap.size with h | h
  ·exact h
  ·simp[World.cell?,Array.getElem?_eq_none h] at hc
 have hg2:(w.alloc (.cells #[.int .i64 0] 43)).cell? ⟨0,0,none⟩=some (.iface 129 (.agg #[.pointer (some ⟨9,35,none⟩)])):=by
  rw[World.cell?_alloc_lt _ _ ⟨0,0,none⟩ hlt];exact hg
 have hc2:(w.alloc (.cells #[.int .i64 0] 43)).cell? ⟨g,20,none⟩=some (.int .i64 k):=by
  rw[World.cell?_alloc_lt _ _ ⟨g,20,none⟩ hgl];exact hc
 go_enter Tryz.func9,Tryz.ntmps9
 go_wp2_with (go_at_call 18;refine(as_wrap g k ⟨w.heap.size,0,none⟩ (.int .i64 0) _ hg2 (by simp) (by simp[go_sem]) hc2).mono ?_;rintro e w' ⟨rfl,rfl⟩)
 go_ret
 exact⟨rfl,(((((Below.refl _ w).alloc (Nat.le_refl _) _).alloc (by simp) _).alloc (by simp;omega) _).alloc (by simp;omega) _).alloc (by simp;omega) _⟩
end Go.Proofs.YticgindfipobiaaGreatDoor
namespace Go.Proofs.YticgindfipobiaaGreatDoor.Gr
open Go.RowKit
def EvIs (w:World) (er:Int) (ev:Value):Prop:=ev=.iface 43 (.int .i64 er) ∨ ∃ g,ev=.iface 75 (.pointer (some ⟨g,0,none⟩))/\w.cell? ⟨g,20,none⟩=some (.int .i64 er)
def PostWk (fd:List Int->Option (Int × Ids)) (al fs:Ids) (w:World) (e:Ending) (w':World):Prop:=Below w.heap.size w w'/\
 ∃ er M,x6 fd [] fs (er,M)/\((er=0/\∃ g,e=.returned (.tuple #[.map (some g),.nilIface])/\SI w' g M.length (· ∈ M)/\Mt fd al M) ∨ (er ≠ 0/\∃ ev,e=.returned (.tuple #[.map none,ev])/\EvIs w' er ev))
structure Wt (fd:List Int->Option (Int × Ids)) (al fs M W:Ids):Prop where
 mt:Mt fd al M
 idw:∀ y ∈ W,IdW y
 len:W.length<=40+2000*M.length
 go:∀ o,x6 fd M W.reverse o->x6 fd [] fs o
theorem Wt.pass {fd:List Int->Option (Int × Ids)} {al fs M W:Ids} {y:List Int} (h:Wt fd al fs M (W++[y])) (hy:y ∈ M):Wt fd al fs M W :=
 ⟨h.mt,fun z hz=>h.idw z (by simp[hz]),by have:=h.len;rw[List.length_append] at this;omega,fun o ho=>h.go o (by rw[List.reverse_append];exact x6.pass hy ho)⟩
theorem Wt.take {fd:List Int->Option (Int × Ids)} {al fs M W ids:Ids} {y:List Int} (h:Wt fd al fs M (W++[y])) (hy:y ∉ M) (hf:fd y=some (0,ids)) (ha:y ∈ al) (hi:∀ z ∈ ids,IdW z) (hl:ids.length<=2000):Wt fd al fs (M++[y]) (W++ids.reverse) :=
 ⟨h.mt.put hy ha (h.idw y (by simp)),fun z hz=>by
  rcases List.mem_append.1 hz with hz | hz
  ·exact h.idw z (by simp[hz])
  ·exact hi z (List.mem_reverse.1 hz),by
  have:=h.len
  rw[List.length_append] at this
  rw[List.length_append,List.length_append,List.length_reverse]
  simp only[List.length_cons,List.length_nil] at this ⊢
  omega,fun o ho=>h.go o (by
  rw[List.reverse_append,List.reverse_reverse] at ho
  rw[List.reverse_append]
  exact x6.take hy hf rfl ho)⟩
theorem Wt.end {fd:List Int->Option (Int × Ids)} {al fs M W:Ids} {y:List Int} {er:Int} (h:Wt fd al fs M (W++[y])) (he:x6 fd M (y :: W.reverse) (er,[])):x6 fd [] fs (er,[]):=h.go _ (by rw[List.reverse_append];exact he)
theorem al_of {os:List Oj} {L:Nat->Int × Ids} {x:List Int} {q:Int × Ids} (h:fdO os L x=some q):x ∈ os.map oid:=by
 unfold fdO at h
 cases hf:fO os x with
 | none=>rw[hf] at h;cases h
 | some i=>exact al_mem hf
theorem fd_lk {os:List Oj} {L:Nat->Int × Ids} (hL:Lx os L) {x:List Int} {q:Int × Ids} (h:fdO os L x=some q):q.2.length<=2000/\∀ y ∈ q.2,IdW y:=by
 unfold fdO at h
 cases hf:fO os x with
 | none=>rw[hf] at h;cases h
 | some i =>
  rw[hf] at h
  cases h
  exact⟨hL.len i (fO_hit hf).1,hL.idw i (fO_hit hf).1⟩
theorem zero67 (w:World):(zeroValue 67).run Tryz.prog w=.ok (.agg #[]) w:=by kernel_rfl
theorem run_makeMap49 (w:World):(Instr.makeMap 49 none).run Tryz.prog w=.ok (.map (some w.heap.size)) (w.alloc (.map #[] 0)):=by kernel_rfl
set_option maxHeartbeats 8000000 in
theorem walk_any (w0:World) (B:Nat) (hb m:Nat) (a:Option Addr) (cap:Nat) (os:List Oj) (L:Nat->Int × Ids) (hL:Lx os L) (hO:Ow B w0 a cap os) (hn:os.length<=40) (w:World) (hw:Below B w0 w) (hB:B<=w.heap.size) (hS:Sh w hb m a cap os) (hv:Lv w) (fa:Option Addr) (fc:Nat) (fs:Ids) (hf:∀ x ∈ fs,IdW x) (hfl:fs.length<=40) (hP:Pa w fa fc fs) :
  Calls Tryz.prog 12 #[.func (.func 14) #[.pointer (some ⟨hb,0,none⟩)] #[],.slice fa fs.length fc] w (PostWk (fdO os L) (os.map oid) fs w):=by
 obtain⟨G,HG⟩:=nm_ w.heap.size
 obtain⟨NF,HNF⟩:=nm_ fs.length
 obtain⟨fd,HFD⟩:=nm_ (fdO os L)
 obtain⟨al,HAL⟩:=nm_ (os.map oid)
 have hNF:NF<=40:=by rw[<-HNF.out];exact hfl
 have HALn:Hid (al.length<=40):=hid (by rw[<-HAL.out,List.length_map];exact hn)
 have HLK0:Hid (∀ W,Below G w W->∀ x,IdW x->Calls Tryz.prog 14 #[.pointer (some ⟨hb,0,none⟩),idV x] W (PostLk fd x W)):=fun W hW x hx=>by
  rw[<-HFD.out]
  exact shelfLinks_any w0 B hb m a cap os L hL hO hn W (hw.trans (hW.mono (by rw[<-HG.out];exact hB))) (Nat.le_trans hB hW.size) (hS.below (by rw[HG.out];exact hW)) (hv.below (by rw[HG.out];exact hW)) x hx
 have HFL:Hid (∀ x q,fd x=some q->x ∈ al/\q.2.length<=2000/\∀ y ∈ q.2,IdW y):=fun x q hq=>by
  rw[<-HFD.out] at hq
  exact⟨by rw[<-HAL.out];exact al_of hq,fd_lk hL hq⟩
 obtain⟨w1,HW1⟩:=nm_ (w.alloc (.map #[] 0))
 have hb1:Below w.heap.size w w1:=by rw[<-HW1.out];exact(Below.refl _ w).alloc (Nat.le_refl _) _
 have HS1:Hid (SI w1 G 0 (· ∈ ([] : Ids))):=hid (by rw[<-HW1.out,<-HG.out];exact(si_made w).congr (fun x=>by simp))
 have hsz1:w1.heap.size=G+1:=by rw[<-HW1.out,<-HG.out];simp
 have HB1:Hid (Below G w w1):=hid (by rw[<-HG.out];exact hb1)
 have C22:Hid (Calls Tryz.prog 22 #[.slice fa NF fc] w1 fun e w'=>∃ v,e=.returned v/\Bi 56 w1 w' (G+1) v fs.reverse):=hid (by
  have:=Xk fa fc fs w1 hf (by omega) (hP.below hb1) trivial
  rw[HNF.out,hsz1] at this
  exact this)
 have HFI:Hid (∀ y ∈ fs,IdW y):=hf
 have hmk:=run_makeMap49 w
 obtain⟨zr,HZ⟩:=nm_ ((row .u8 z20).toArray)
 have hz56:∀ w:World,(zeroValue 56).run Tryz.prog w=.ok (.agg zr) w:=fun w=>by rw[<-HZ.out];exact zero42 w
 have hz67:∀ w:World,(zeroValue 67).run Tryz.prog w=.ok (.agg #[]) w:=zero67
 rw[HNF.out,HFD.out,HAL.out]
 clear hL hO hw hB hS hv hP hb1 hf hn
 go_enter Tryz.func12,Tryz.ntmps12
 go_wp2_with fail
 rw[HW1.out,HG.out]
 refine C22.out.mono ?_
 rintro ev w2 ⟨v0,rfl,hb2⟩
 have HBI2:Hid (Bi 56 w2 w2 (G+1) v0 fs.reverse):=hid hb2.re
 have HB2:Hid (Below G w w2):=hid (HB1.out.trans (hb2.below.mono (by omega)))
 have HS2:Hid (SI w2 G 0 (· ∈ ([] : Ids))):=hid (HS1.out.below (by rw[hsz1];exact hb2.below))
 have HWT:Hid (Wt fd al fs [] fs.reverse):=hid ⟨mt_nil _ _,fun y hy=>HFI.out y (List.mem_reverse.1 hy),by rw[List.length_reverse,HNF.out];omega,fun o ho=>by rw[List.reverse_reverse] at ho;exact ho⟩
 clear hb2 hsz1
 go_wp2_with fail
 go_loopg [7] (fs.reverse.length+2001*40) (fun gg v wr=>∃ (W M:Ids) (n:Nat),Hid (W.length=n)/\gg=n+2001*(40-M.length)/\Hid (Bi 56 wr wr (G+1) v W)/\Hid (SI wr G M.length (· ∈ M))/\Hid (Below G w wr)/\Hid (Wt fd al fs M W))
 case atStart=>exact⟨fs.reverse,[],_,hid rfl,rfl,HBI2,HS2,HB2,HWT⟩
 case round =>
  obtain⟨W,M,n,HN,hgg,HBI,HSI,HBw,HWK⟩:=hrel
  have hMl:M.length<=40:=Nat.le_trans HWK.out.mt.few HALn.out
  have hGw:G<wr.heap.size:=HSI.out.lt
  by_cases h0:0<n
  ·obtain⟨q,cp,hvq⟩:∃ q cp,u7=.slice (some ⟨q,0,none⟩) n cp:=by
    obtain⟨_,⟨_,h1⟩ | ⟨q,cp,cur,h1,_⟩⟩:=HBI.out.own
    ·rw[HN.out] at h1;omega
    ·rw[HN.out] at h1;exact⟨q,cp,h1⟩
   subst hvq
   have hnb:n<=80040:=by have:=HWK.out.len;rw[HN.out] at this;omega
   obtain⟨n1,hn1⟩:∃ n1,n=n1+1:=⟨n-1,by omega⟩
   have hn1b:n1<=80040:=by omega
   have hn1lt:n1<n:=by omega
   have HN1:Hid (n=n1+1):=hn1
   have hn1i:(n:Int)-1=(n1:Int):=by omega
   have HWE:Hid (W=W.take n1++[W.getD n1 []]):=hid (by
    have:=xW [] W n1 (by rw[HN.out];omega)
    rw[<-this,List.take_of_length_le (by rw[HN.out];omega)])
   obtain⟨y,HY⟩:=nm_ (W.getD n1 [])
   obtain⟨W1,HW1'⟩:=nm_ (W.take n1)
   have HWE2:Hid (W=W1++[y]):=hid (by have:=HWE.out;rwa [HY.out,HW1'.out] at this)
   have HW1L:Hid (W1.length=n1):=hid (by rw[<-HW1'.out,List.length_take,HN.out];omega)
   have hym:y ∈ W:=by rw[HWE2.out];simp
   have HYW:Hid (IdW y):=hid (HWK.out.idw y hym)
   have HWL:Hid (∀ z ∈ W,(row .u8 z).length=20):=fun z hz=>by rw[zq];exact(HWK.out.idw z hz).1
   have HCUT:Hid (Bi 56 wr wr (G+1) (.slice (some ⟨q,0,none⟩) n1 cp) W1):=hid (by
    rw[<-HW1'.out];exact HBI.out.cut HWL.out n1 (by rw[HN.out];omega))
   have hcp:n<=cp:=by
    obtain⟨_,⟨h1,_⟩ | ⟨_,_,cur,h1,_,_,h2,_⟩⟩:=HBI.out.own
    ·cases h1
    ·cases h1;rw[HN.out] at h2;exact h2
   have hcpi:(n1:Int)<=(cp:Int):=by omega
   have hn1n:(n1:Int)<(n:Int):=by omega
   obtain⟨RF,HRF⟩:=rw_ HYW.out.1
   have RR:Hid (wr.rangeAt q (n1*20) RF):=hid (by
    obtain⟨a',cap',e1,e2,_⟩:=HBI.out.px (d:=[]) HWL.out
    rw[HN.out] at e1
    cases e1
    obtain⟨b',off',e3,_,e4⟩:=e2.at_ (by rw[HN.out];omega)
    cases e3
    have:=e4 n1 (by rw[HN.out];omega)
    rw[HY.out,HRF.out.e,Nat.zero_add] at this
    exact this)
   have hi56:=HRF.out.i56
   have E56:Hid (zr.size=RF.toArray.size):=hid (by rw[<-HZ.out];exact HRF.out.z)
   obtain⟨H,w3,HN3⟩:=nw 56 zr wr RF
   have hb3:Below wr.heap.size wr w3:=by rw[HN3.out.h];exact HN3.out.below
   have HB3:Hid (Below G w w3):=hid (HBw.out.trans (hb3.mono (Nat.le_of_lt hGw)))
   have HS3:Hid (SI w3 G M.length (· ∈ M)):=hid (HSI.out.below hb3)
   have HC3:Hid (Bi 56 w3 w3 (G+1) (.slice (some ⟨q,0,none⟩) n1 cp) W1):=hid (HCUT.out.moveB hb3)
   have R3:Hid (w3.rangeAt H 0 RF):=hid HN3.out.at
   have hH3:H<w3.heap.size:=HN3.out.lt
   have hGH:G<H:=by rw[<-HN3.out.h];exact hGw
   obtain⟨b,hbm,hlk⟩:=HS3.out.look HYW.out
   have HLK:Hid ((Instr.lookup 49 (.map (some G)) (.agg RF.toArray) true).run Tryz.prog w3=.ok (.tuple #[.agg #[],.bool b]) w3):=hid (by
    unfold idV at hlk
    rw[HRF.out.e] at hlk
    exact hlk)
   obtain⟨w4,HW4⟩:=nm_ (w3.alloc (.cells #[] 67))
   have hb4:Below w3.heap.size w3 w4:=by rw[<-HW4.out];exact(Below.refl _ w3).alloc (Nat.le_refl _) _
   have al4:w3.alloc (.cells #[] 67)=w4:=HW4.out
   have HB4:Hid (Below G w w4):=hid (HB3.out.trans (hb4.mono (by omega)))
   have HS4:Hid (SI w4 G M.length (· ∈ M)):=hid (HS3.out.below hb4)
   have HC4:Hid (Bi 56 w4 w4 (G+1) (.slice (some ⟨q,0,none⟩) n1 cp) W1):=hid (HC3.out.moveB hb4)
   have HX4:Hid (w4.heap[H]? = some (.cells RF.toArray 56 (0,0))):=hid ((hb4.block H hH3).trans HN3.out.box)
   have R4:Hid (w4.rangeAt H 0 RF):=hid (zx HX4.out)
   have hH4:H<w4.heap.size:=z6 HX4.out
   have HBM:Hid (b=true ↔ y ∈ M):=hbm
   have HWKE:Hid (Wt fd al fs M (W1++[y])):=hid (by have:=HWK.out;rw[HWE2.out] at this;exact this)
   clear hb3 hym HWE hn1 hb4 hbm hlk
   cases b with
   | true =>
    have hyM:y ∈ M:=HBM.out.1 rfl
    have HWK2:Hid (Wt fd al fs M W1):=hid (HWKE.out.pass hyM)
    clear hyM
    go_wp2_with (first
     | refine wpList_load_mid rfl 56 _ rfl q (n1*20) rfl RF _ RR.out Tryz.underlying56 rfl hi56 ?_
     | (refine wpList_store_row rfl 56 _ _ rfl wr.heap.size RF.toArray rfl rfl 56 zr HN3.out.d HRF.out.j56 E56.out HRF.out.o ?_;rw[HN3.out.w,HN3.out.h])
     | refine wpList_load_mid rfl 56 _ rfl H 0 rfl RF _ R3.out Tryz.underlying56 rfl hi56 ?_
     | refine wpList_run rfl _ (kX rfl rfl rfl HLK.out) ?_
     | fail)
    go_roundg (n1+2001*(40-M.length))
    case measure=>omega
    case rel=>exact⟨W1,M,n1,HW1L,rfl,HC4,HS4,HB4,HWK2⟩
   | false =>
    have HYM:Hid (y ∉ M):=fun h=>by have:=HBM.out.2 h;cases this
    obtain⟨w5,hput,hs5,hg5⟩:=HS4.out.put (by omega) HYW.out
    have HPUT:Hid ((Instr.mapUpdate 49 (.map (some G)) (.agg RF.toArray) (.agg #[])).run Tryz.prog w4=.ok () w5):=hid (by
     unfold idV at hput
     rw[HRF.out.e] at hput
     exact hput)
    have HS5:Hid (SI w5 G (M++[y]).length (· ∈ (M++[y]))):=hid (by
     rw[List.length_append]
     exact hs5.congr (fun x=>by simp[or_comm]))
    have HB5:Hid (Below G w w5):=hid (HB4.out.grown hg5 (by omega) (fun k hk=>by cases hk;exact Nat.le_refl _))
    have HC5:Hid (Bi 56 w5 w5 (G+1) (.slice (some ⟨q,0,none⟩) n1 cp) W1):=hid (HC4.out.move hg5 (.inr (by
     have:=(qW HC4.out.own q rfl).1
     simp[Value.ownBlock]
     omega)))
    have HX5:Hid (w5.heap[H]? = some (.cells RF.toArray 56 (0,0))):=hid ((hg5.block H hH4 (by simp;omega)).trans HX4.out)
    have R5:Hid (w5.rangeAt H 0 RF):=hid (zx HX5.out)
    have C14:Hid (Calls Tryz.prog 14 #[.pointer (some ⟨hb,0,none⟩),.agg RF.toArray] w5 (PostLk fd y w5)):=hid (by
     have:=HLK0.out w5 HB5.out y HYW.out
     unfold idV at this
     rw[HRF.out.e] at this
     exact this)
    have hH5:H<w5.heap.size:=z6 HX5.out
    clear hput hs5 hg5
    go_wp2_with (first
     | refine wpList_load_mid rfl 56 _ rfl q (n1*20) rfl RF _ RR.out Tryz.underlying56 rfl hi56 ?_
     | (refine wpList_store_row rfl 56 _ _ rfl wr.heap.size RF.toArray rfl rfl 56 zr HN3.out.d HRF.out.j56 E56.out HRF.out.o ?_;rw[HN3.out.w,HN3.out.h])
     | refine wpList_load_mid rfl 56 _ rfl H 0 rfl RF _ R3.out Tryz.underlying56 rfl hi56 ?_
     | refine wpList_run rfl _ (kX rfl rfl rfl HLK.out) ?_
     | refine wpList_load_mid rfl 56 _ rfl H 0 rfl RF _ R4.out Tryz.underlying56 rfl hi56 ?_
     | refine wpList_skip rfl (exec_update rfl rfl rfl rfl HPUT.out) ?_
     | refine wpList_load_mid rfl 56 _ rfl H 0 rfl RF _ R5.out Tryz.underlying56 rfl hi56 ?_
     | fail)
    refine C14.out.mono ?_
    rintro ev w6 ⟨hb6,hpo⟩
    have HB6:Hid (Below G w w6):=hid (HB5.out.trans (hb6.mono (by omega)))
    have HS6:Hid (SI w6 G (M++[y]).length (· ∈ (M++[y]))):=hid (HS5.out.below hb6)
    have HC6:Hid (Bi 56 w6 w6 (G+1) (.slice (some ⟨q,0,none⟩) n1 cp) W1):=hid (HC5.out.moveB hb6)
    have hGw6:G<w6.heap.size:=HS6.out.lt
    clear hb6
    rcases hpo with ⟨hno,g,rfl,hbx⟩ | ⟨er,ids,la,lc,hfd,rfl,hpl⟩
    ·have HEN:Hid (x6 fd [] fs (50,[])):=hid (HWKE.out.end (ends_miss HYM.out hno))
     have HBX:Hid (w6.cell? ⟨g,20,none⟩=some (.int .i64 50)):=hid (by
      have h1:=cell_of_row w6 g 20 _ _ _ hbx
      rw[h1]
      have h2:(row .u8 y).toArray.size=20:=by rw[List.size_toArray,zq];exact HYW.out.1
      rw[Array.getElem?_push,h2]
      rfl)
     clear hno hbx
     go_wp2
     go_ret2
     exact⟨by rw[HG.out];exact HB6.out,50,[],HEN.out,.inr ⟨by decide,_,rfl,.inr ⟨g,rfl,HBX.out⟩⟩⟩
    ·by_cases her:er=0
     ·subst her
      have hev:Y0 0=.nilIface:=rfl
      rw[hev]
      obtain⟨hya,hil,hiw⟩:=HFL.out y _ hfd
      have HIL:Hid (ids.length<=2000):=hil
      have HWK2:Hid (Wt fd al fs (M++[y]) (W1++ids.reverse)):=hid (HWKE.out.take HYM.out hfd hya hiw hil)
      have HM1:Hid (M.length+1<=40):=hid (by have:=Nat.le_trans HWK2.out.mt.few HALn.out;rw[List.length_append] at this;exact this)
      obtain⟨nl,HNL⟩:=nm_ ids.length
      obtain⟨K6,HK6⟩:=nm_ w6.heap.size
      have hnl:nl<=2000:=by rw[<-HNL.out];exact hil
      obtain⟨rv,HRV⟩:=nm_ ids.reverse
      have HRL:Hid (rv.length<=2000):=hid (by rw[<-HRV.out,List.length_reverse];exact HIL.out)
      rw[HRV.out] at HWK2
      have C22b:Hid (Calls Tryz.prog 22 #[.slice la nl lc] w6 fun e w'=>∃ v,e=.returned v/\Bi 56 w6 w' K6 v rv):=hid (by
       have:=Xk la lc ids w6 hiw (Nat.le_trans HIL.out (by decide)) hpl trivial
       rw[HNL.out,HK6.out,HRV.out] at this
       exact this)
      have HIW:Hid (∀ z ∈ rv,(row .u8 z).length=20):=fun z hz=>by rw[zq];exact(hiw z (by rw[<-HRV.out] at hz;exact List.mem_reverse.1 hz)).1
      rw[HNL.out]
      clear hfd hpl hya hil hiw hev
      go_wp2_with fail
      refine C22b.out.mono ?_
      rintro ev w7 ⟨v7,rfl,hb7⟩
      obtain⟨va,vc,hv7,hpx7,_⟩:=hb7.px (d:=[]) HIW.out
      subst hv7
      have hb67:Below w6.heap.size w6 w7:=by rw[HK6.out];exact hb7.below
      have HB7:Hid (Below G w w7):=hid (HB6.out.trans (hb67.mono (by omega)))
      have HS7:Hid (SI w7 G (M++[y]).length (· ∈ (M++[y]))):=hid (HS6.out.below hb67)
      have HC7:Hid (Bi 56 w7 w7 (G+1) (.slice (some ⟨q,0,none⟩) n1 cp) W1):=hid (HC6.out.moveB hb67)
      have HP7:Hid (Pa w7 va vc rv):=hpx7
      have HSUM:Hid (W1.length+rv.length<=100000):=hid (by rw[HW1L.out];have:=HRL.out;omega)
      clear hb7 hpx7 hb67
      go_wp2_with (first
       | (refine yZ (d:=[]) rfl _ _ 23 56 Tryz.underlying23 Tryz.info56 rfl (by decide) (by decide) (fun z=>zV _ z) rfl (G+1) _ _ rfl HC7.out va vc rv rfl HP7.out HIW.out HSUM.out ?_;intro v8 w8 hb8 hg8)
       | fail)
      have hne:∀ k,(Value.slice (some ⟨q,0,none⟩) n1 cp).ownBlock=some k->G+1<=k:=fun k hk=>(qW HC7.out.own k hk).1
      have HC8:Hid (Bi 56 w8 w8 (G+1) v8 (W1++rv)):=hid hb8.re
      have HB8:Hid (Below G w w8):=hid (HB7.out.trans (hb8.below.mono (by omega)))
      have HS8:Hid (SI w8 G (M++[y]).length (· ∈ (M++[y]))):=hid (HS7.out.kept hg8 (by
       intro e
       have:=hne G e.symm
       omega))
      clear hb8 hg8 hne
      go_roundg ((W1++rv).length+2001*(40-(M++[y]).length))
      case measure =>
       have h1:=HM1.out
       have h2:=HW1L.out
       have h3:=HRL.out
       rw[List.length_append,List.length_append]
       simp only[List.length_cons,List.length_nil]
       omega
      case rel=>exact⟨W1++rv,M++[y],_,hid rfl,rfl,HC8,HS8,HB8,HWK2⟩
     ·have hev:Y0 er=.iface 43 (.int .i64 er):=by rw[Y0,if_neg her]
      rw[hev]
      have HEN:Hid (x6 fd [] fs (er,[])):=hid (HWKE.out.end (ends_bad HYM.out hfd her))
      have HE0:Hid (er ≠ 0):=her
      clear hfd hpl hev
      go_wp2
      go_ret2
      exact⟨by rw[HG.out];exact HB6.out,er,[],HEN.out,.inr ⟨HE0.out,_,rfl,.inl rfl⟩⟩
  ·have hn0:n=0:=by omega
   subst hn0
   have HWN:Hid (W=[]):=hid (List.length_eq_zero_iff.1 HN.out)
   have HEN:Hid (x6 fd [] fs (0,M)):=hid (HWK.out.go _ (by rw[HWN.out];exact ends_nil))
   have HSH:Hid (∃ va vc,u7=.slice va 0 vc):=hid (by
    obtain⟨va,vc,h⟩:=qw HBI.out.own
    rw[HN.out] at h
    exact⟨va,vc,h⟩)
   obtain⟨va,vc,hvv⟩:=HSH.out
   subst hvv
   go_wp2
   go_ret2
   exact⟨by rw[HG.out];exact HBw.out,0,M,HEN.out,.inl ⟨rfl,G,rfl,HSI.out,HWK.out.mt⟩⟩
end Go.Proofs.YticgindfipobiaaGreatDoor.Gr
