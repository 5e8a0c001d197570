import Derived.Deep.Slices
import Derived.Test.YtiaaekdpfpaigaaGreatDoorMn35
import Derived.Test.YtiaaekdpfpaigaaGreatDoorCards
import Derived.Test.YtiaaekdpfpaigaaGreatDoorTie
set_option linter.unusedVariables false
set_option maxRecDepth 20000
set_option maxHeartbeats 4000000
open Option renaming some->Wq9
namespace Go.Proofs.YtiaaekdpfpaigaaGreatDoor.Pk.Short
open Go.Proofs.Tryz
open Go.ChangeShapes Go.WideShapes Go.ChangeAt Go.RowKit Go.Proofs.YtiaaekdpfpaigaaGreatDoor.Id
theorem own:ownKnob prog.godebug=none:=by kernel_rfl
theorem laidOut:laidOutB prog=true:=by kernel_rfl
theorem g2:prog.globalNamed "gitlike/deflate.lengthStart" = some 1:=by kernel_rfl
theorem g3:prog.globalNamed "gitlike/deflate.lengthBits" = some 2:=by kernel_rfl
theorem g4:prog.globalNamed "gitlike/deflate.distanceStart" = some 3:=by kernel_rfl
theorem g5:prog.globalNamed "gitlike/deflate.distanceBits" = some 4:=by kernel_rfl
theorem gp:prog.globalNamed "internal/strconv.uint64pow10" = some 5:=by kernel_rfl
theorem g6:prog.globalNamed "gitlike/deflate.thirdOrder" = some 6:=by kernel_rfl
theorem t2:(prog.globals[1]?).map (·.type)=some 130:=by kernel_rfl
theorem t3:(prog.globals[2]?).map (·.type)=some 130:=by kernel_rfl
theorem t4:(prog.globals[3]?).map (·.type)=some 131:=by kernel_rfl
theorem t5:(prog.globals[4]?).map (·.type)=some 131:=by kernel_rfl
theorem tp:(prog.globals[5]?).map (·.type)=some 260:=by kernel_rfl
theorem t6:(prog.globals[6]?).map (·.type)=some 271:=by kernel_rfl
theorem uS:prog.underlying 130=some (.array 29 3):=by kernel_rfl
theorem uD:prog.underlying 131=some (.array 30 3):=by kernel_rfl
theorem uP:prog.underlying 260=some (.array 20 123):=by kernel_rfl
theorem uT:prog.underlying 271=some (.array 19 3):=by kernel_rfl
theorem u3:prog.underlying 3=some (.int .i64):=by kernel_rfl
theorem uU:prog.underlying 123=some (.int .u64):=by kernel_rfl
theorem c3:prog.cellsOf 3=1:=by kernel_rfl
theorem cU:prog.cellsOf 123=1:=by kernel_rfl
theorem cS:prog.cellsOf 130=29:=by kernel_rfl
theorem cD:prog.cellsOf 131=30:=by kernel_rfl
theorem cP:prog.cellsOf 260=20:=by kernel_rfl
theorem cT:prog.cellsOf 271=19:=by kernel_rfl
def zOf (l:List Nat):List Int:=l.map fun (n:Nat)=>(n:Int)
theorem X9 (l:List Nat):(zOf l).length=l.length:=by simp[zOf]
theorem VY (l:List Nat) (i:Nat):(zOf l).getD i 0=((l.getD i 0:Nat):Int):=by
 unfold zOf;rw[List.getD_eq_getElem?_getD,List.getElem?_map,List.getD_eq_getElem?_getD];cases l[i]? <;> rfl
theorem xx {P:Program} {W:World} {n:String} {d:DataW Unit} {r:List (String × DataW Unit)} (h:laidMet P ((n,d) :: r) W):laidMet P r W:=by
 obtain⟨ps,⟨g,t,cs,fuel,p,q,_,_,_,_,hq,rfl⟩,hn,hall⟩:=h;exact⟨q,hq,(List.nodup_append.1 hn).2.1,fun b off hb=>hall b off (List.mem_append.2 (.inr hb))⟩
def zuQ:List (String × DataW Unit):=[("math/bits.deBruijn32tab", Rows.laid_math_bits_deBruijn32tab),("math/bits.deBruijn64tab", Rows.laid_math_bits_deBruijn64tab),("internal/strconv.uint64pow10", Lib.tabData .u64 Lib.pow10Tab),("gitlike/deflate.lengthStart", Lib.tabData .i64 (zOf Df.lenStart)),("gitlike/deflate.lengthBits", Lib.tabData .i64 (zOf Df.lenBits)),("gitlike/deflate.distanceStart", Lib.tabData .i64 (zOf Df.distStart)),("gitlike/deflate.distanceBits", Lib.tabData .i64 (zOf Df.distBits)),("gitlike/deflate.thirdOrder", Lib.tabData .i64 (zOf Df.third))]
def Ey:List (String × DataW Unit):=[("errors.errorType", Rows.laid_errors_errorType)]
theorem zuX {W:World} (h:laidMetH prog Rows.packShortRow.laid W):laidMet prog zuQ W/\handlesMet prog Ey W:=h
theorem IQ {w:World} {a:Addr} {v:Value} (h:w.cell? a=some v):a.block<w.heap.size:=by
 rcases Nat.lt_or_ge a.block w.heap.size with h' | h'
 ·exact h'
 simp[World.cell?,Array.getElem?_eq_none h'] at h
theorem P6 {W:World} (h:laidMetH prog Rows.packShortRow.laid W):Df.TabsW W/\Tab W:=by
 have h1:=xx (xx (zuX h).1);have h2:=xx h1;have h3:=xx h2;have h4:=xx h3;have h5:=xx h4;have h6:=xx h5;have k2:=Lib.tabIs_of_head g2 t2 uS u3 c3 cS h2;have k3:=Lib.tabIs_of_head g3 t3 uS u3 c3 cS h3;have k4:=Lib.tabIs_of_head g4 t4 uD u3 c3 cD h4;have k5:=Lib.tabIs_of_head g5 t5 uD u3 c3 cD h5
 have k6:=Lib.tabIs_of_head g6 t6 uT u3 c3 cT h6;refine⟨⟨fun i hi=>?_,fun i hi=>?_,fun i hi=>?_,fun i hi=>?_,fun i hi=>?_,IQ (k6.cell g6 0 (by rw[X9];decide))⟩,Lib.tabIs_of_head gp tp uP uU cU cP h1⟩
 ·rw[<-VY];exact k2.cell g2 i (by rw[X9];exact hi)
 ·rw[<-VY];exact k3.cell g3 i (by rw[X9];exact hi)
 ·rw[<-VY];exact k4.cell g4 i (by rw[X9];exact hi)
 ·rw[<-VY];exact k5.cell g5 i (by rw[X9];exact hi)
 rw[<-VY];exact k6.cell g6 i (by rw[X9];exact hi)
theorem open_row {H:Type} {enc:TypeId × Value->H} {W:World} {m:Nat} {v:Value} {y:DataW H × List MemPlace} {t e:TypeId} {k:IntKind} (ht:prog.underlying t=some (.slice e)) (he:prog.underlying e=some (.int k)) (hc:prog.cellsOf e=1) (h:DataW.trod enc prog W 0 (fun _=>true) true m t [v]=some y) :
  ∃ (a:Option Addr) (c:Nat) (l:List Int),v=.slice a l.length c/\l.length<=c/\(∀ x ∈ l,(Lit.int k x).wf=true)/\(0<l.length->∃ b off,a=some ⟨b,off,none⟩/\b<W.heap.size/\∀ i,i<l.length->W.cell? ⟨b,off+i,none⟩=some (.int k (l.getD i 0))):=by
 rcases open_ints ht he hc h with ⟨hcs,_⟩ | ⟨x,l,c,zs,hcs,_,hl,hm,hz,hy,hcell,hwz⟩
 ·simp only[List.cons.injEq,and_true] at hcs;subst hcs;exact⟨none,0,[],rfl,Nat.le_refl _,(fun x hx=>by cases hx),fun h=>absurd h (Nat.lt_irrefl 0)⟩
 simp only[List.cons.injEq,and_true] at hcs;subst hcs;simp only[if_true] at hz;have hlen:(zs.take l).length=l:=by rw[List.length_take];omega
 refine⟨some x,c,zs.take l,by rw[hlen],by rw[hlen];exact hl,fun n hn=>hwz n (List.mem_of_mem_take hn),fun hpos=>?_⟩;rw[hlen] at hpos;obtain⟨b,off,spot⟩:=x;have hc:=hcell 0 (by omega);have hspot:spot=none:=by simpa [Addr.add] using World.cell?_spot hc
 subst hspot;refine⟨b,off,rfl,IQ hc,fun i hi=>?_⟩;rw[hlen] at hi;have:=hcell i (by omega);rw[addr_add] at this;rw[this];simp[hi]
set_option maxRecDepth 100000 in
theorem contract (H:Type) (enc:TypeId × Value->H) (W:World) (base:Nat) (args:Array Value) (ds gs:List (DataW H)) (before:List MemPlace)
  (hval:∀ (j:Nat) t v,f3.params[j]? = some t->args[j]? = some v->Value.okWide prog W .any base t v)
  (hW:DataW.Whole enc prog f3.params.toList Rows.packShortSpec.vars false W args.toList ds gs before)
  (hL:laidMetH prog Rows.packShortRow.laid W) :
  Calls prog 3 args W fun e W'=>∃ v,e=.returned v/\Rows.packShortSpec.post enc prog f3 false true false false W args v W':=by
 have hW':=hW;obtain⟨p,q,hA0,hV,rfl,hfz,hnd⟩:=hW;have hA:DataW.TrodAll enc prog W 0 (fun _=>true) true f3.params.toList args.toList ds p:=hA0;rw[Tryz.params3] at hA hval;obtain⟨v0,vs0,d0,ds0,p0,q0,hargs,rfl,rfl,h0,r0⟩:=trodAll_cons hA;obtain⟨v1,vs1,d1,ds1,p1,q1,rfl,rfl,rfl,h1,r1⟩:=trodAll_cons r0;obtain⟨v2,vs2,d2,ds2,p2,q2,rfl,rfl,rfl,h2,r2⟩:=trodAll_cons r1
 obtain⟨rfl,rfl,rfl⟩:=trodAll_nil r2;obtain rfl:args=#[v0,v1,v2]:=by cases args;simp_all
 obtain⟨rfl,rfl⟩:=trodVars_none hV;have k0:=h0;have k1:=h1;have k2:=h2;have lt0:∀ x ∈ p0,x.block<W.heap.size:=by obtain⟨m,hm⟩:=k0;exact DataW.trod_lt m _ _ _ hm
 have lt1:∀ x ∈ p1,x.block<W.heap.size:=by obtain⟨m,hm⟩:=k1;exact DataW.trod_lt m _ _ _ hm
 have lt2:∀ x ∈ p2,x.block<W.heap.size:=by obtain⟨m,hm⟩:=k2;exact DataW.trod_lt m _ _ _ hm
 obtain⟨kd,rfl⟩:=okWide_int underlying3 (hval 0 3 v0 rfl rfl);obtain⟨a1,n1,c1,rfl⟩:=okWide_slice underlying22 (hval 1 22 v1 rfl rfl);obtain⟨a2,n2,c2,rfl⟩:=okWide_slice underlying23 (hval 2 23 v2 rfl rfl)
 obtain⟨a,c,l,hv1,hlc,hwf,hat⟩:∃ (a:Option Addr) (c:Nat) (l:List Int),Value.slice a1 n1 c1=.slice a l.length c/\l.length<=c/\(∀ x ∈ l,(Lit.int .u8 x).wf=true)/\(0<l.length->∃ b off,a=some ⟨b,off,none⟩/\b<W.heap.size/\∀ i,i<l.length->W.cell? ⟨b,off+i,none⟩=some (.int .u8 (l.getD i 0))):=by
  obtain⟨fuel,hf⟩:=h1;exact open_row (y:=(d1,p1)) underlying22 underlying5 (by kernel_rfl) hf
 obtain⟨sa,sc,ss,hv2,hsc,-,hst⟩:∃ (a:Option Addr) (c:Nat) (l:List Int),Value.slice a2 n2 c2=.slice a l.length c/\l.length<=c/\(∀ x ∈ l,(Lit.int .i64 x).wf=true)/\(0<l.length->∃ b off,a=some ⟨b,off,none⟩/\b<W.heap.size/\∀ i,i<l.length->W.cell? ⟨b,off+i,none⟩=some (.int .i64 (l.getD i 0))):=by
  obtain⟨fuel,hf⟩:=h2;exact open_row (y:=(d2,p2)) underlying23 underlying3 (by kernel_rfl) hf
 clear hA0;obtain⟨hT,hP⟩:=P6 hL;have walk:Calls prog 3 #[.int .i64 kd,.slice a1 n1 c1,.slice a2 n2 c2] W fun e w'=>e=.returned (.bool true)/\Below W.heap.size W w':=by
  rw[hv1,hv2];by_cases h:l.length=0 ∨ 20000<l.length ∨ 60<ss.length
  ·exact zq0 kd a sa l.length c ss.length sc W h
  obtain⟨b,o,rfl,hb,hcell⟩:=hat (by omega);exact zzY kd b o c l.length l W rfl (by omega) (by omega) (fun x hx=>by have:=bounds_u8 (hwf x hx);omega) hcell hb hlc sa ss.length sc ss rfl (by omega) ⟨hsc,hst⟩ hT (fun W' h=>hP.below h)
 refine walk.mono fun e W' ⟨he,bel⟩=>?_;subst he
 exact⟨_,rfl,_,_,_,[],_,[],hW',trodAll_mk1 (shut_bool underlying4 _),(trodAll_cons_mk (Below.trod laidOut (by kernel_rfl) (of_decide_eq_true (by kernel_rfl)) k0 bel lt0) (trodAll_cons_mk (Below.trod laidOut (by kernel_rfl) (of_decide_eq_true (by kernel_rfl)) k1 bel lt1) (trodAll_cons_mk (Below.trod laidOut (by kernel_rfl) (of_decide_eq_true (by kernel_rfl)) k2 bel lt2) trodAll_mk0))),rfl,bel.frame _,fun h=>by cases h⟩
def relay (cs:Array Value):Obj->Obj
 | .cells _ t frozen=>.cells cs t frozen
 | o=>o
def layIn (w:World):World :=
 { w with heap:=(((((((((w.heap.modify 0 (relay #[.iface 153 (.agg #[.pointer (some ⟨10,35,none⟩)])])).modify 1 (relay (row .i64 (zOf Df.lenStart)).toArray)).modify 2 (relay (row .i64 (zOf Df.lenBits)).toArray)).modify 3 (relay (row .i64 (zOf Df.distStart)).toArray)).modify 4 (relay (row .i64 (zOf Df.distBits)).toArray)).modify 5 (relay (row .u64 Lib.pow10Tab).toArray)).modify 6 (relay (row .i64 (zOf Df.third)).toArray)).modify 8 (relay (row .u8 [0,1,28,2,29,14,24,3,30,22,20,15,25,17,4,8,31,27,13,23,21,19,16,7,26,12,18,6,11,5,10,9]).toArray)).modify 9 (relay (row .u8 [0,1,56,2,57,49,28,3,61,58,42,50,38,29,17,4,62,47,59,36,45,43,51,22,53,39,33,30,24,18,12,5,63,55,48,27,60,41,37,16,46,35,44,21,52,32,23,11,54,26,40,15,34,20,31,10,25,14,19,9,13,8,7,6]).toArray)) }
def wit:Array Value:=#[.int .i64 0,.slice none 0 0,.slice none 0 0]
theorem laid_met (os:Go.Os):laidMetH prog Rows.packShortRow.laid ((layIn (World.holding prog os ⟨#[],#[],[]⟩)).forCall (fun _ _=>0) ⟨#[],wit,[]⟩).memory :=
 laidMetH_of_parts (laidMet_of_run' 8 (by kernel_rfl) (by kernel_rfl)) (by kernel_rfl)
theorem reads (os:Go.Os) {H:Type} (enc:TypeId × Value->H):∃ ds places,DataW.whole enc prog ((layIn (World.holding prog os ⟨#[],#[],[]⟩)).forCall (fun _ _=>0) ⟨#[],wit,[]⟩).memory f3.params.toList Rows.packShortSpec.vars false wit.toList 8=some (ds,[],places) :=
 ⟨[.lit (.int .i64 0),.nil,.nil],[],by kernel_rfl⟩
set_option maxRecDepth 100000 in
theorem lifted (os:Go.Os) (started:os.Started) (H:Type) (enc:TypeId × Value->H) (F:Stop.Interp) :
  ReturnsInHanded {} Tryz.checked os 3 .any ((OpenSpec.ofChange Rows.packShortSpec).preRow enc prog f3 Rows.packShortRow.domain false Rows.packShortRow.laid) (((OpenSpec.ofChange Rows.packShortSpec).at F).post enc prog f3 false true false false):=by
 obtain⟨ds,places,hx⟩:=reads os enc;refine returnsInHanded_of_row (C:=Tryz.checked) (s:=OpenSpec.ofChange Rows.packShortSpec) own started (by kernel_rfl) func3
  (witness_row_at (enc:=enc) (C:=Tryz.checked) false (layIn (World.holding prog os ⟨#[],#[],[]⟩)) wit rfl (by kernel_rfl) (by kernel_rfl) (by kernel_rfl)
   (OpenSpec.preRow_of_cond 8 hx (by kernel_rfl) (fun k hk=>by cases hk) (by kernel_rfl) (laid_met os))) ?_
 intro W base args ds gs before hval hW _ _ hsz hL hsh _;exact contract H enc W base args ds gs before hval hW hL
theorem said:Rows.PackShortSaid :=
 OpenClaim.holds_of_cond 3 f3 rfl rfl rfl rfl rfl rfl rfl ⟨rfl,rfl,rfl,rfl,rfl⟩ rfl rfl rfl rfl rfl (by kernel_rfl) func3 (by kernel_rfl)
  (of_decide_eq_true (by kernel_rfl)) (by unfold Func.isWrapper;first | (rw[if_pos (by decide +kernel)];kernel_rfl) | (rw[if_neg (by decide +kernel)];exact⟨rfl,rfl⟩))
  (fun os started H enc _ F=>by rw[OpenClaim.pre_eq_preRow];exact lifted os started H enc F)
theorem plain (f:FuncId) (fn:Func) (hf:Tryz.pinned.checked.prog.funcNamed "gitlike/gitlikelaw5.PackShort" = some f) (hfn:Tryz.pinned.checked.prog.funcs[f]? = some fn) :
  true=Tryz.pinned.checked.prog.looks []/\∀ (j:Nat) t,fn.params[j]? = some t->Tryz.pinned.checked.prog.wantsStandIn t=false:=by
 obtain rfl:f=3:=Wq9.inj ((show prog.funcNamed "gitlike/gitlikelaw5.PackShort" = some 3 by kernel_rfl).symm.trans hf) |>.symm;obtain rfl:fn=f3:=(Wq9.inj (func3.symm.trans hfn)).symm;refine⟨by kernel_rfl,fun j t ht=>?_⟩;rw[Tryz.params3] at ht;have hm:t=3 ∨ t=22 ∨ t=23:=by simpa using Array.mem_of_getElem? ht
 rcases hm with rfl | rfl | rfl
 ·exact(show prog.wantsStandIn 3=false by kernel_rfl)
 ·exact(show prog.wantsStandIn 22=false by kernel_rfl)
 exact(show prog.wantsStandIn 23=false by kernel_rfl)
end Go.Proofs.YtiaaekdpfpaigaaGreatDoor.Pk.Short
namespace Go.Proofs.YtiaaekdpfpaigaaGreatDoor
open Go.Proofs.Tryz
theorem packShort_card:Rows.PackShortCardSaid :=
 Claim7.holds_tied_plain_at .later [] _ _ _ _ Pk.Short.said (fun _ h=>by cases h) (by kernel_rfl) (fun _ h=>by cases h) packShort_row_tie rfl ⟨rfl,rfl⟩ (by kernel_rfl) rfl Pk.Short.plain (by kernel_rfl)
#print axioms packShort_card
end Go.Proofs.YtiaaekdpfpaigaaGreatDoor
