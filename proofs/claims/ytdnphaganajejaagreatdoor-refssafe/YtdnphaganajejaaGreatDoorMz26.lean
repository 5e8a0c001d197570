import Derived.Test.YtdnphaganajejaaGreatDoorMz25
import Derived.Test.YtdnphaganajejaaGreatDoorMz24
set_option linter.unusedSimpArgs false
set_option linter.unusedVariables false
set_option maxRecDepth 20000
set_option maxHeartbeats 4000000
open List renaming length_take->WzJ
open Nat renaming le_refl->Wz8
namespace Go.Proofs.YtdnphaganajejaaGreatDoor.K
open Go.Proofs.Tryz
open Go.RowKit
theorem Wu (S:Nat->Prop) (N D:Nat) (q:Bool) (a:Ds) (x:Str) (w:World) (h:Dm S N w D q a) (L:x.length<=4000) (hN:N<=90000) :
  Calls prog 102 #[.pointer (some ⟨D,0,none⟩),sV x] w fun e w'=>∃ v,e=.returned v/\Nam S N D q a w w' v (fun k=>k=3/\a.now x=none) (fun I=>a.now x ≠ none/\I=a.step [(x,none)]):=by
 obtain⟨G,h⟩:=h;have Q:=Zk S N D q a G x w h L
 have j:Hid (∀ w1,Dm0 S N w1 D q a G->Al S w w1->a.now x ≠ none->∀ o2,o2=Obj.cells #[sV x,.pointer none] 154->Calls prog 124 #[.pointer (some ⟨D,0,none⟩),.slice (some ⟨w1.heap.size,0,none⟩) 1 1] (w1.alloc o2) fun e w'=>e=.returned (.tuple #[])/\Nam S N D q a w w' .nilIface (fun k=>k=3/\a.now x=none) (fun I=>a.now x ≠ none/\I=a.step [(x,none)])):=by
  rintro w1 M h2 h3 o2 V;have hb:=qK w1 o2;have hv:∀ y,Ra.nmL a.now [(x,none)] y=if y=x then none else a.now y:=fun y=>rfl;have Y:Jq a [(x,none)]:=by
   refine⟨fun y B hy=>?_,fun y z B hy A=>?_,fun y hy=>?_⟩
   ·rw[hv] at hy;by_cases e:y=x
    ·rw[if_pos e] at hy;cases hy
    rw[if_neg e] at hy;exact M.dom_now hy
   ·rw[hv] at hy A;by_cases e:y=x
    ·rw[if_pos e] at hy;cases hy
    rw[if_neg e] at hy;by_cases e2:z=x
    ·rw[if_pos e2] at A;cases A
    rw[if_neg e2] at A;exact M.inj_now hy A
   rw[hv] at hy;by_cases e:y=x
   ·rw[if_pos e] at hy;exact absurd rfl hy
   rw[if_neg e] at hy;exact M.two_now hy
  refine(Jx S N D q a _ _ w1.heap.size 1 [(x,none)] w1 _ hb ((M.below hb).mono (fun i hi=>.inl hi) (Wz8 _)) (Wz8 _) (by rw[heap_alloc_new,V];rfl) (by simp) (by simp) (by simpa using L) Y hN).mono ?_;rintro e w' ⟨rfl,j1,j2⟩;have A:=h2.size
  exact⟨rfl,_,.inr ⟨rfl,h3,rfl⟩,j1.mono (fun i hi=>by rcases hi with hi | hi;exact .inl hi;exact .inr ⟨by omega,hi.2⟩) (Wz8 _),h2.trans j2 (fun i hi=>.inl hi)⟩
 clear h;unfold sV at Q j ⊢;go_enter func102,ntmps102;go_wp2_with (go_at_call 81;refine Q.mono ?_;rintro e w1 ⟨v1,v2,rfl,z1,z2,z3,z4⟩;clear z4;have O:=hid z1;have Z:=hid z2;have Z3:=hid z3;clear z1 z2 z3 Q;refine Hid.out ?_)
 refine hid ?_;rcases O.out with ⟨b,k,rfl,rfl,k1,k2,k3⟩ | ⟨B,k1,rfl,rfl⟩
 ·have HX:=hid (Nam.bad (ks:=fun k=>k=3/\a.now x=none) (ok:=fun I=>a.now x ≠ none/\I=a.step [(x,none)]) Z.out Z3.out k1 k2 k3);clear k1 k2 k3 O j;go_wp2;exact bodyPost_ret (results_tmp results102 _ _ _) rfl ⟨_,rfl,HX.out⟩
 have J:=j.out w1 Z.out Z3.out (by rw[k1];simp) _ rfl;clear j k1 O;go_wp2_with (go_at_call 124;refine J.mono ?_;rintro e w' ⟨rfl,k⟩;have K:=hid k;clear k J)
 exact bodyPost_ret (results_tmp results102 _ _ _) rfl ⟨_,rfl,K.out⟩
theorem BQ (S:Nat->Prop) (N D:Nat) (q:Bool) (a:Ds) (x z:Str) (w:World) (h:Dm S N w D q a) (V:x.length<=4000) (hz:z=pr ∨ z=nw) (a6:x ≠ z) (hN:N<=90000) :
  Calls prog 101 #[.pointer (some ⟨D,0,none⟩),sV x,sV z] w fun e w'=>∃ v,e=.returned v/\Nam S N D q a w w' v (fun k=>k=3/\a.now x=none) (fun L=>∃ B,a.now x=some B/\L=a.step [(z,some B),(x,none)]):=by
 obtain⟨G,h⟩:=h;have a8:z.length<=4000:=by rcases hz with rfl | rfl <;> decide
 have hf:=Zk S N D q a G x w h V
 have A:Hid (∀ w1 B,Dm0 S N w1 D q a G->Al S w w1->a.now x=some B->∀ o2,o2=Obj.cells #[sV z,.pointer (some ⟨B,0,none⟩),sV x,.pointer none] 154->Calls prog 124 #[.pointer (some ⟨D,0,none⟩),.slice (some ⟨w1.heap.size,0,none⟩) 2 2] (w1.alloc o2) fun e w'=>e=.returned (.tuple #[])/\Nam S N D q a w w' .nilIface (fun k=>k=3/\a.now x=none) (fun L=>∃ B,a.now x=some B/\L=a.step [(z,some B),(x,none)])):=by
  rintro w1 B J h2 Y o2 a7;have hb:=qK w1 o2;have hv:∀ y,Ra.nmL a.now [(z,some B),(x,none)] y=if y=x then none else if y=z then some B else a.now y:=fun y=>rfl;have Q:Jq a [(z,some B),(x,none)]:=by
   refine⟨fun y C hy=>?_,fun y u C hy j=>?_,fun y hy=>?_⟩
   ·rw[hv] at hy;by_cases e:y=x
    ·rw[if_pos e] at hy;cases hy
    rw[if_neg e] at hy;by_cases I:y=z
    ·rw[if_pos I] at hy;cases hy;exact J.dom_now Y
    rw[if_neg I] at hy;exact J.dom_now hy
   ·rw[hv] at hy j;by_cases e:y=x
    ·rw[if_pos e] at hy;cases hy
    by_cases e3:u=x
    ·rw[if_pos e3] at j;cases j
    rw[if_neg e] at hy;rw[if_neg e3] at j;by_cases I:y=z
    ·by_cases M:u=z
     ·rw[I,M]
     rw[if_pos I] at hy;cases hy
     rw[if_neg M] at j;exact absurd (J.inj_now j Y) e3
    rw[if_neg I] at hy;by_cases M:u=z
    ·rw[if_pos M] at j;cases j
     exact absurd (J.inj_now hy Y) e
    rw[if_neg M] at j;exact J.inj_now hy j
   rw[hv] at hy;by_cases e:y=x
   ·rw[if_pos e] at hy;exact absurd rfl hy
   rw[if_neg e] at hy;by_cases I:y=z
   ·rw[I];exact hz
   rw[if_neg I] at hy;exact J.two_now hy
  refine(Jx S N D q a _ _ w1.heap.size 2 [(z,some B),(x,none)] w1 _ hb ((J.below hb).mono (fun i hi=>.inl hi) (Wz8 _)) (Wz8 _) (by rw[heap_alloc_new,a7];rfl) (by simp) (by simp) (by intro m hm;simp only[List.mem_cons,List.not_mem_nil,or_false] at hm;rcases hm with rfl | rfl;exact a8;exact V) Q hN).mono ?_;rintro e w' ⟨rfl,j1,j2⟩;have hz:=h2.size
  exact⟨rfl,_,.inr ⟨rfl,B,Y,rfl⟩,j1.mono (fun i hi=>by rcases hi with hi | hi;exact .inl hi;exact .inr ⟨by omega,hi.2⟩) (Wz8 _),h2.trans j2 (fun i hi=>.inl hi)⟩
 have Q:(x == z)=false:=by simpa using a6
 clear h;unfold sV at hf A ⊢;go_enter func101,ntmps101;go_wp2_with (go_at_call 81;refine hf.mono ?_;rintro e w1 ⟨v1,v2,rfl,z1,z2,z3,z4⟩;clear z4;have Z:=hid z1;have Z2:=hid z2;have Z3:=hid z3;clear z1 z2 z3 hf;refine Hid.out ?_)
 refine hid ?_;rcases Z.out with ⟨b,k,rfl,rfl,k1,k2,k3⟩ | ⟨B,k1,rfl,rfl⟩
 ·have HX:=hid (Nam.bad (ks:=fun k=>k=3/\a.now x=none) (ok:=fun L=>∃ B,a.now x=some B/\L=a.step [(z,some B),(x,none)]) Z2.out Z3.out k1 k2 k3);clear k1 k2 k3 Z A;go_wp2;exact bodyPost_ret (results_tmp results101 _ _ _) rfl ⟨_,rfl,HX.out⟩
 have O:=A.out w1 B Z2.out Z3.out k1 _ rfl;clear A k1 Z;go_wp2_with (go_at_call 124;refine O.mono ?_;rintro e w' ⟨rfl,k⟩;have K:=hid k;clear k O)
 exact bodyPost_ret (results_tmp results101 _ _ _) rfl ⟨_,rfl,K.out⟩
theorem blk6 (ls:Str) (m:Nat) (h:m<=6):(bkS ls).take m=([98,108,111,99,107,32] : Str).take m:=by
 have:bkS ls=[98,108,111,99,107,32]++(bkS ls).drop 6:=by
  conv=>lhs;rw[<-List.take_append_drop 6 (bkS ls)]
  congr 1
 rw[this,List.take_append_of_le_length (by simpa using h)]
theorem qqk (m:Nat):Lib.hasPrefix ([98,108,111,99,107,32] : Str) (([98,108,111,99,107,32] : Str).take m)=true:=by
 rcases m with _ | _ | _ | _ | _ | _ | m;all_goals first | decide | (rw[List.take_of_length_le (by simp)];decide)
theorem zzx (a:Option Addr) (c:Nat) (ls:Str) (m:Nat) (w:World) (Q:TypeId) (O:Value) (I:w.cell? ⟨1,0,none⟩=some (.iface Q O)) (hl:ls.length<=290000000) (h0:0<m) (hm:m<105) (M:PB w a c ((bkS ls).take m)) :
  Calls prog 109 #[.slice a m c] w fun e w'=>e=.returned (.tuple #[.slice none 0 0,.slice none 0 0,.iface Q O])/\Below w.heap.size w w':=by
 have V:(bkS ls).length=105+ls.length:=by unfold bkS;rw[List.length_append,xW ls (by omega)]
 have hlen:((bkS ls).take m).length=m:=by rw[WzJ];omega
 have a6:m<=c:=by rw[<-hlen];exact M.capl
 obtain⟨b,off,e1,_⟩:=M.at_ (by omega);subst e1;obtain⟨k,hk⟩:∃ k,min m 6=k:=⟨_,rfl⟩;have j:=M.take k;have K:((bkS ls).take m).take k=([98,108,111,99,107,32] : Str).take k:=by rw[List.take_take,show min k m=k by omega];exact blk6 ls k (by omega)
 rw[K] at j;have A:=jq j;have J:(([98,108,111,99,107,32] : Str).take k).length=k:=by rw[WzJ];simp;omega
 rw[J] at A;have ac:=Wv b off m c k (by omega);have G:=fun W=>Nm.hasPrefix_any [98,108,111,99,107,32] (([98,108,111,99,107,32] : Str).take k) W;rw[qqk] at G;obtain⟨D,Z⟩:∃ D:ByteArray,⟨(([98,108,111,99,107,32] : Str).take k).toArray⟩=D:=⟨_,rfl⟩;unfold sV at A;rw[Z] at G A;have a7:min (m:Int) 6=(k:Int):=by omega
 have a8:(m:Int)<105:=by omega
 have Y:w.cell? ⟨1,0,none⟩=some (.iface Q O):=I;clear M j K J V hlen hl Z I;go_enter func109,ntmps109;go_wp2_with (go_at_call 66;refine(G _).mono ?_;rintro e w1 ⟨rfl,L⟩;obtain rfl:=L.symm;clear L)
 refine wp_region_held_drew (S:=fun W=>W.cell? ⟨1,0,none⟩=some (.iface Q O)) (by kernel_rfl) Y (fun h=>?_);iterate 4
  refine qy (v:=?_) h ?_ ?_;rotate_left
  ·intro w' c0;go_simp;try rfl
  try simp only[Act.put,sL]
 refine wpAnyH_done (by kernel_rfl) ?_ _;go_wp2;exact bodyPost_ret (results_tmp3 results109 _ _ _) rfl ⟨rfl,zj _ _ 1⟩
end Go.Proofs.YtdnphaganajejaaGreatDoor.K
namespace Go.Proofs.YtdnphaganajejaaGreatDoor.K
open Go.Proofs.Tryz
open Go.RowKit Go.Extern.Stop Go.Stop Go.Extern
theorem eqCut (p:Addr) (w:World):(binOp .eql 27 (.iface 335 (.pointer (some p))) (.iface 335 (.pointer (some p)))).run prog w=.ok (.bool true) w:=by
 have h:(prog.info? 335).map (·.comparable)=some true:=by kernel_rfl
 have D:(prog.info? 337).isSome=true:=by kernel_rfl
 have G:prog.underlying 335=some (.pointer 337):=underlying335;cases e1:prog.info? 335 with
 | none=>rw[e1] at h;cases h
 | some i =>
  cases A:prog.info? 337 with
  | none=>rw[A] at D;cases D
  | some j =>
   rw[e1] at h;exact run_eql_iface_ptr_same w p underlying27 G e1 (Option.some.inj h) A
theorem zzj (p:Addr) (w:World):(ReflectliteType.typeOf #[.iface 335 (.pointer (some p))]).run prog w=.ok (.iface 179 (.agg #[.pointer (some ⟨10,335,none⟩)])) w:=by kernel_rfl
theorem Gk (w:World):(ReflectliteType.method zxw #[.agg #[.pointer (some ⟨10,335,none⟩)]]).run prog w=.ok (.bool true) w:=by kernel_rfl
theorem zvj (p:Addr) (w:World):Calls prog 75 #[.iface 335 (.pointer (some p)),.iface 335 (.pointer (some p)),.bool true] w fun e w'=>e=.returned (.bool true)/\w'=w:=by
 have q1:=eqCut p;go_enter func75,ntmps75;go_wp2_with fail
 go_loopg [0] 1 (fun q v wr=>(q=1/\v=.iface 335 (.pointer (some p))/\wr=w));case atStart=>exact⟨rfl,rfl,rfl⟩
 obtain⟨h,rfl,rfl⟩:=hrel;go_wp2_with fail
 exact bodyPost_ret (results_tmp results75 _ _ _) rfl ⟨rfl,rfl⟩
theorem quY (p:Addr) (w:World):Calls prog 34 #[.iface 335 (.pointer (some p)),.iface 335 (.pointer (some p))] w fun e w'=>e=.returned (.bool true)/\w'=w:=by
 have j:=@run_callFunc_extern prog 74 _ ReflectliteType.typeOf func74 (by kernel_rfl) (by kernel_rfl) (by kernel_rfl) (by kernel_rfl);have h:=@run_callFunc_extern prog 270 _ (ReflectliteType.method zxw) func270 (by kernel_rfl) (by kernel_rfl) (by kernel_rfl) (by kernel_rfl);have D:=zzj;have A:=j0;have c44:=Gk
 have hi:=zvj p w;go_enter func34,ntmps34;go_wp2_with (go_at_call 75;refine hi.mono ?_;rintro e w' ⟨rfl,rfl⟩)
 exact bodyPost_ret (results_tmp results34 _ _ _) rfl ⟨rfl,rfl⟩
def Ec (w:World):Prop := ∃ p,w.cell? ⟨1,0,none⟩=some (.iface 335 (.pointer (some p)))
theorem Ec.below {w w':World} (h:Ec w) (hb:Below w.heap.size w w'):Ec w':=by
 obtain⟨p,h⟩:=h;exact⟨p,(hb.cell (p:=⟨1,0,none⟩) (Nm.cell_lt h)).trans h⟩
end Go.Proofs.YtdnphaganajejaaGreatDoor.K
namespace Go.Proofs.YtdnphaganajejaaGreatDoor.K
open Go.Proofs.Tryz
open Go.RowKit
theorem WZ (p q:Addr) (w:World) :
  CallsD prog 161 #[.pointer (some p),.pointer (some q)] .returning w fun e u' w'=>e=.returned (.tuple #[])/\u'=.returning/\w'=w:=by
 refine callsD_of_wpS func161 rfl fun c₀ cs hu=>?_;apply wpS_seq;apply wpS_region;simp[wpOpsS,go_sem,recoverD,hu,ntmps161,Exit.thenS];refine wpS_cond (t:=false) (by simp[Act.eval,Array.replicate]) ?_;refine wpS_of_wp ?_;go_wp2;cases c₀
 simp_all [bodyPostS,results]
theorem Nam.to {S:Nat->Prop} {N D:Nat} {q:Bool} {a:Ds} {w w1 w2 w3:World} {v:Value} {ks:Int->Prop} {ok:Ds->Prop} {T:TypeId} (h:Nam S N D q a w1 w2 v ks ok) (O:w.heap.size<=w1.heap.size) (G:Tf T w2 w3) (hs:w2.heap.size=w3.heap.size) (j:T ≠ 63/\T ≠ 84/\T ≠ 5/\T ≠ 79/\T ≠ 154/\T ≠ 177) (M:Al S w w3):Nam S N D q a w w3 v ks ok:=by
 obtain⟨I,A,L,V⟩:=h;refine⟨I,?_,(L.tf G (by omega) ⟨j.1,j.2.1,j.2.2.1,j.2.2.2.1,j.2.2.2.2.1⟩).mono (fun i hi=>?_) (Wz8 _),M⟩
 ·rcases A with ⟨rfl,b,k,e1,Q,J,K⟩ | A
  ·exact .inl ⟨rfl,b,k,e1,by omega,J.tf G j.2.2.2.2.2,K⟩
  exact .inr A
 rcases hi with hi | hi
 ·exact .inl hi
 exact .inr ⟨by omega,by omega⟩
theorem Nam.shape {S:Nat->Prop} {N D:Nat} {q:Bool} {a:Ds} {w w2:World} {v:Value} {ks:Int->Prop} {ok:Ds->Prop} (h:Nam S N D q a w w2 v ks ok):v=.nilIface ∨ ∃ b,v=eV b:=by
 obtain⟨j,⟨_,b,k,e,_⟩ | ⟨e,_⟩,_⟩:=h
 ·exact .inr ⟨b,e⟩
 exact .inl e
theorem PX (S:Nat->Prop) (N D:Nat) (q:Bool) (a:Ds) (x:Str) (w:World) (h:Dm S N w D q a) (hx:x=pr ∨ x=nw) (hN:N<=90000) (G:∀ i,S i->i<w.heap.size) :
  Calls prog 123 #[.pointer (some ⟨D,0,none⟩),sV x] w fun e w'=>∃ v,e=.returned v/\Nam S N D q a w w' v (fun k=>k=3/\a.now x ≠ none) (fun J=>a.now x=none/\∃ B,a.nd B=none/\J=(a.put B ([],0)).step [(x,some B)]):=by
 have a6:∀ (fn:Fn) (first cap:Array Value) (w:World),(Instr.makeFunc fn first cap).run prog w=.ok (.func fn first cap) w:=fun _ _ _ _=>rfl;obtain⟨w1,j⟩:=nm_ ((w.alloc (.cells #[sV x] 9)).alloc (.cells #[.nilIface] 27));have hb:Below w.heap.size w w1:=by rw[<-j.out];exact((Below.refl _ w).alloc (Wz8 _) _).alloc (by simp) _
 have M:w1.heap.size=w.heap.size+2:=by rw[<-j.out];simp
 have A:=C0 S N D q a x w1 (h.below hb) hx hN;have I:w1.heap[w.heap.size+1]? = some (.cells #[.nilIface] 27):=by
  have:=heap_alloc_new (w.alloc (.cells #[sV x] 9)) (.cells #[.nilIface] 27);rw[j.out] at this;simpa using this
 obtain⟨ks,K⟩:∃ ks:Int->Prop,(fun k=>k=3/\a.now x ≠ none)=ks:=⟨_,rfl⟩;obtain⟨ok,L⟩:∃ ok:Ds->Prop,(fun J=>a.now x=none/\∃ B,a.nd B=none/\J=(a.put B ([],0)).step [(x,some B)])=ok:=⟨_,rfl⟩;rw[K,L] at A ⊢
 have HE:Hid (∀ w2 v,Nam S N D q a w1 w2 v ks ok->w2.heap[w.heap.size+1]? = some (.cells #[.nilIface] 27)/\Nam S N D q a w (w2.setCell ⟨w.heap.size+1,0,none⟩ v) v ks ok):=fun w2 v k=>by
  have Y:Al S w1 w2:=k.choose_spec.2.2;have V:=(Y.blk (w.heap.size+1) (by omega) (fun hs=>by have:=G _ hs;omega)).trans I;have t:Tf 27 w2 (w2.setCell ⟨w.heap.size+1,0,none⟩ v):=Tf.set (p:=⟨w.heap.size+1,0,none⟩) V _
  exact⟨V,k.to (by omega) t (by simp[World.setCell]) (by decide) (((Al.below hb).trans Y (fun i h=>.inl h)).trans (Al.of_set (S:=fun i=>i=w.heap.size+1) (p:=⟨w.heap.size+1,0,none⟩) rfl _) (fun i hi=>.inr (by omega)))⟩
 unfold sV at A j ⊢;clear hb M I h G;go_enter_defers func123,ntmps123
 go_wp2_with (go_at_call 162;rw[j.out];refine A.mono ?_;rintro e w2 ⟨v,rfl,k⟩;have KS:=hid k.shape;obtain⟨q1,Z⟩:=HE.out w2 v k;have Q2:=hid Z;have q3:w2.cell? ⟨w.heap.size+1,0,none⟩=some .nilIface:=(by simp[World.cell?,q1]);have q4:w2.frozen? ⟨w.heap.size+1,0,none⟩=false:=(by simp[World.frozen?,q1]);clear q1 Z k;refine Hid.out ?_)
 refine hid ?_;rcases KS.out with rfl | ⟨b,rfl⟩
 ·go_wp2;simp only[bodyPostD];refine leaves_cons (f:=161) (args:=#[.pointer (some ⟨w.heap.size,0,none⟩),.pointer (some ⟨w.heap.size+1,0,none⟩)]) (by simp) (by simp[go_sem]) ?_;refine(WZ _ _ _).mono ?_;rintro e u' Q ⟨rfl,rfl,rfl⟩;have O:=World.cell?_setCell_same w2 _ .nilIface q3;simp[Leaves,settle,results,go_sem,O];exact Q2.out
 go_wp2;simp only[bodyPostD];refine leaves_cons (f:=161) (args:=#[.pointer (some ⟨w.heap.size,0,none⟩),.pointer (some ⟨w.heap.size+1,0,none⟩)]) (by simp) (by simp[go_sem]) ?_;refine(WZ _ _ _).mono ?_;rintro e u' Q ⟨rfl,rfl,rfl⟩;have O:=World.cell?_setCell_same w2 _ (eV b) q3;simp[Leaves,settle,results,go_sem,O];exact Q2.out
theorem qqv {a:Ds} {B:Nat} : ((a.put B ([],0)).step [(nw,some B)]).now nw=some B:=rfl
theorem zzk (S:Nat->Prop) (N D:Nat) (q:Bool) (o:Option (List Int)) (ab:Option Addr) (cb:Nat) (bs:List Int) (a:Ds) (w:World) (h:Dm S N w D q a) (ak:N<=80000) (ho:Ra.Old pr nw o a) (ac:∀ i,S i->i<w.heap.size) (hb:Sl w ab cb bs) (ad:∀ p:Addr,ab=some p->¬ S p.block/\p.block<w.heap.size) (ae:bs.length<=500000000) :
  Calls prog 99 #[.pointer (some ⟨D,0,none⟩),sV nw,.slice ab bs.length cb] w (uz S N D q o bs w):=by
 have ai:pr ≠ nw:=Ne.symm X9;have HC:Hid (∀ W a1 M,Bs S M w W D q a1->M<=N+4->Ra.Old pr nw o a1->Calls prog 123 #[.pointer (some ⟨D,0,none⟩),sV nw] W (Ei (fun b j=>∃ k,Er b k j/\((k=1/\q=false) ∨ (k=3/\a1.now nw ≠ none))/\Bs S (M+2) w j D q a1) (Tl S N D q o ab cb bs w))):=fun W a1 M h1 aj o1=>by
  refine(PX (Sx S w W) M D q a1 nw W h1.dm (.inr rfl) (by omega) (CY ac h1.al.size)).mono ?_;rintro e j ⟨v,rfl,a2,k1,k2,k3⟩;have b1:=h1.next k2 k3;rcases k1 with ⟨rfl,b,k,rfl,am,Z,I⟩ | ⟨rfl,e1,B,hB,rfl⟩
  ·exact Ei.bad b ⟨k,Z,I,b1⟩
  exact Ei.ok (zv6 S N (M+2) D q o ab cb bs _ B w j b1 (by omega) ak (o1.create ai B hB e1) qqv (by simp[Ra.As.step,Ra.As.put]) hb ad ae)
 have a7:=HC.out w a N (Bs.refl h) (by omega) ho
 have HR:Hid (∀ W a1 M,Bs S M w W D q a1->M<=N+2->Ra.Old pr nw o a1->a1.now nw ≠ none->Calls prog 102 #[.pointer (some ⟨D,0,none⟩),sV nw] W (Ei (fun b j=>uz S N D q o bs w (.returned (eV b)) j) (fun j=>Calls prog 123 #[.pointer (some ⟨D,0,none⟩),sV nw] j (Ei (fun b j=>uz S N D q o bs w (.returned (eV b)) j) (Tl S N D q o ab cb bs w))))):=fun W a1 M h1 aj o1 hn=>by
  refine(Wu (Sx S w W) M D q a1 nw W h1.dm U3 (by omega)).mono ?_;rintro e j ⟨v,rfl,a2,k1,k2,k3⟩;have b1:=h1.next k2 k3;rcases k1 with ⟨rfl,b,k,rfl,am,Z,I⟩ | ⟨rfl,e1,rfl⟩
  ·refine Ei.bad b (uz.bad o1 Z ?_ b1 (by omega));rcases I with I | ⟨_,I⟩
   ·exact .inl I
   exact absurd I hn
  have o2:=o1.remove ai;refine Ei.ok ((HC.out j _ (M+2) b1 (by omega) o2).mono ?_);rintro e W2 ⟨v2,rfl,⟨b,rfl,k,Z,I,J⟩ | ⟨rfl,V⟩⟩
  ·refine Ei.bad b (uz.bad o2 Z ?_ J (by omega));rcases I with I | ⟨_,I⟩
   ·exact .inl I
   exact absurd (show ((a1.step [(nw,none)]).now nw)=none from rfl) I
  exact Ei.ok V
 have a8:=fun W=>Rj 32 (.int .i64 3) W;have a6:=fun b k W (hb:Er b k W)=>qxk b k W hb.c1;obtain⟨L,HL⟩:=nm_ bs.length;have HO:=hid ho;have ao:Hid (Dm S N w D q a):=hid h
 have A:Hid (∀ j,Tl S N D q o ab cb bs w j->Calls prog 90 #[.pointer (some ⟨D,0,none⟩),sV nw,.slice ab L cb] j (Ei (fun b j=>uz S N D q o bs w (.returned (eV b)) j) (fun j=>Calls prog 39 #[.pointer (some ⟨D,0,none⟩),sV nw] j fun e2 W2=>∃ v,e2=.returned v/\uz S N D q o bs w (.returned v) W2))):=fun j V=>by
  unfold Tl at V;rw[HL.out] at V;exact V
 rw[HL.out];clear h ho ac hb ad ae HC;unfold sV nw pr at a7 HR A ⊢;go_enter func99,ntmps99;go_wp2_with (go_at_call 123;refine a7.mono ?_;rintro e w1 ⟨v,rfl,k⟩;have K:=hid k;clear k a7;refine Hid.out ?_)
 refine hid ?_;rcases K.out with ⟨b,rfl,k,Z,I,J⟩ | ⟨rfl,V⟩;rotate_left
 ·have Q:=A.out w1 V;clear V K A HR a6;go_wp2_with (first
   | (go_at_call 34;refine(a8 _).mono ?_;rintro e w' ⟨rfl,hw⟩;have Y:=hw.symm;subst Y;clear hw)
   | (go_at_call 90;refine Q.mono ?_;rintro e w4 ⟨v,rfl,k⟩;have K:=hid k;clear k Q;refine Hid.out ?_))
  refine hid ?_;rcases K.out with ⟨b4,rfl,G⟩ | ⟨rfl,O⟩
  ·have HX:=hid G;clear G K;go_wp2;exact bodyPost_ret (results_tmp results99 _ _ _) rfl HX.out
  clear K;go_wp2_with (go_at_call 39;refine O.mono ?_;rintro e w5 ⟨v,rfl,G⟩;have HX:=hid G;clear G O)
  exact bodyPost_ret (results_tmp results99 _ _ _) rfl HX.out
 have ah:=a6 b k w1 Z;rcases I with ⟨rfl,hq⟩ | ⟨rfl,hn⟩
 ·have HX:Hid (uz S N D q o bs w (.returned (eV b)) w1):=hid (uz.bad HO.out Z (.inl ⟨rfl,hq⟩) J (by omega));clear Z J K a6 a8 HR A;go_wp2_with (go_at_call 34;refine ah.mono ?_;rintro e w' ⟨rfl,hw⟩;have Y:=hw.symm;subst Y;clear hw)
  exact bodyPost_ret (results_tmp results99 _ _ _) rfl HX.out
 have hr:=HR.out w1 a (N+2) J (by omega) HO.out hn;clear Z J K a6 a8 HR;go_wp2_with (first
  | (go_at_call 34;refine ah.mono ?_;rintro e w' ⟨rfl,hw⟩;have Y:=hw.symm;subst Y;clear hw)
  | (go_at_call 102;refine hr.mono ?_;rintro e w2 ⟨v,rfl,k⟩;have K:=hid k;clear k hr;refine Hid.out ?_))
 refine hid ?_;rcases K.out with ⟨b2,rfl,G⟩ | ⟨rfl,ag⟩
 ·have HX:=hid G;clear G K A;go_wp2;exact bodyPost_ret (results_tmp results99 _ _ _) rfl HX.out
 clear K;go_wp2_with (go_at_call 123;refine ag.mono ?_;rintro e w3 ⟨v,rfl,k⟩;have K:=hid k;clear k ag;refine Hid.out ?_)
 refine hid ?_;rcases K.out with ⟨b3,rfl,G⟩ | ⟨rfl,V⟩
 ·have HX:=hid G;clear G K A;go_wp2;exact bodyPost_ret (results_tmp results99 _ _ _) rfl HX.out
 have Q:=A.out w3 V;clear V K A;go_wp2_with (go_at_call 90;refine Q.mono ?_;rintro e w4 ⟨v,rfl,k⟩;have K:=hid k;clear k Q;refine Hid.out ?_)
 refine hid ?_;rcases K.out with ⟨b4,rfl,G⟩ | ⟨rfl,O⟩
 ·have HX:=hid G;clear G K;go_wp2;exact bodyPost_ret (results_tmp results99 _ _ _) rfl HX.out
 clear K;go_wp2_with (go_at_call 39;refine O.mono ?_;rintro e w5 ⟨v,rfl,G⟩;have HX:=hid G;clear G O)
 exact bodyPost_ret (results_tmp results99 _ _ _) rfl HX.out
end Go.Proofs.YtdnphaganajejaaGreatDoor.K
