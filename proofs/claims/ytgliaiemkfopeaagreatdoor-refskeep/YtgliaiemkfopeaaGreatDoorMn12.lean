import Derived.Test.YtgliaiemkfopeaaGreatDoorMn11
import Derived.Shelf.SlIter.Nil
import Derived.Shelf.SortM.Plain
import Derived.Shelf.SortM.SortNone
import Derived.Shelf.SlicesE.IndexFunc
import Derived.Ground.GgzProg
import Derived.Ground.SlgmProg
import Derived.Test.YtgliaiemkfopeaaGreatDoorProg
import Derived.Sort.OwnSorted
import Derived.Defers
import Derived.Recover
set_option linter.unusedSimpArgs false
set_option linter.unusedVariables false
set_option maxRecDepth 20000
set_option maxHeartbeats 4000000
namespace Go.Proofs.YtgliaiemkfopeaaGreatDoor.K
open Go.RowKit
theorem Tryz.results14:Tryz.f14.results=#[.tmp 2]:=by kernel_rfl
theorem Tryz.results101:Tryz.f101.results=#[.tmp 8,.tmp 9]:=by kernel_rfl
theorem Tryz.results65:Tryz.f65.results=#[.tmp 4,.tmp 5]:=by kernel_rfl
theorem Tryz.results5:Tryz.f5.results=#[.tmp 2]:=by kernel_rfl
theorem sl_own {w:World} {B:Nat} {a:Option Addr} {n c:Nat} {zs:List Int} (h:w.ownsRow B 5 1 (.slice a n c) zs.length (row .u8 zs)):Sl w a c zs:=by
 have hB:Bx eB 1 5 w w 0 (.slice a n c) zs:=⟨Below.refl _ _,by
  rw[row_eB]
  obtain⟨hl,h1 | ⟨g,cap,cur,hv,_,r⟩⟩:=h
  ·exact⟨hl,.inl h1⟩
  ·exact⟨hl,.inr ⟨g,cap,cur,hv,Nat.zero_le _,r⟩⟩,Nat.zero_le _⟩
 obtain⟨a',c',e,h1,-⟩:=hB.px (d:=0) (fun _ _=>rfl)
 cases e
 refine⟨h1.capl,fun h0=>?_,h1.nil⟩
 obtain⟨b,off,e1,e2,e3⟩:=h1.at_ h0
 refine⟨b,off,e1,e2,fun i hi=>?_⟩
 have:=e3 i hi 0 (.int .u8 (zs.getD i 0)) rfl
 simpa using this
theorem clone_bytes (a:Option Addr) (c:Nat) (zs:List Int) (w:World) (h:Sl w a c zs) (hl:zs.length<=500000000) :
  Calls Tryz.prog 14 #[.slice a zs.length c] w fun e w'=>∃ v,e=.returned v/\w'.ownsRow w.heap.size 5 1 v zs.length (row .u8 zs)/\Below w.heap.size w w':=by
 obtain⟨L,HL⟩:=nm_ zs.length
 have hq:∀ (w:World) (a:Option Addr) (n c n' c':Nat),(binOp .eql 60 (.slice a n c) (.slice none n' c')).run Tryz.prog w=.ok (.bool a.isNone) w:=fun w a n c n' c'=>Lib.run_eql_slice_nil w _ _ a n c n' c' uj
 rw[HL.out]
 cases a with
 | none =>
  have h0:zs=[]:=List.length_eq_zero_iff.1 (by have:=h.capl;have:=h.nil rfl;omega)
  subst h0
  have:L=0:=HL.out.symm
  subst this
  go_enter Tryz.func14,Tryz.ntmps14
  go_wp2_with fail
  exact bodyPost_ret (results_tmp Tryz.results14 _ _ _) rfl ⟨_,rfl,World.ownsRow_nil _ _ _ _,Below.refl _ _⟩
 | some p =>
  have HB:Hid (Bx eB 1 5 w (w.alloc (.cells #[] 5)) w.heap.size (.slice (some ⟨w.heap.size,0,none⟩) 0 0) []):=hid ⟨(Below.refl _ w).alloc (Nat.le_refl _) _,World.ownsRow_made w #[] 0 (Nat.le_refl _) (Nat.zero_le _) (by simp),by simp⟩
  have HP:Hid (Px eB 1 0 (w.alloc (.cells #[] 5)) (some p) c zs):=hid ((px_bytes h).below ((Below.refl _ w).alloc (Nat.le_refl _) _))
  go_enter Tryz.func14,Tryz.ntmps14
  go_wp2_with (at_builtin;refine zj (enc:=eB) (k:=1) (d:=0) rfl _ _ 60 5 uj Yy rfl (by decide) (by decide) (fun x v hv=>by simp only[eB,List.mem_singleton] at hv;subst hv;rfl) rfl _ _ [] rfl HB.out (some p) c zs (by rw[HL.out];rfl) HP.out (fun x _=>rfl) (by simpa using Nat.le_trans hl (by decide)) ?_;intro v2 w2 hb2 hg2 hm2;have HB2:=hid hb2;clear hb2 hg2 hm2)
  refine bodyPost_ret (results_tmp Tryz.results14 _ _ _) rfl ⟨_,rfl,?_,HB2.out.below⟩
  have:=HB2.out.own
  rw[List.nil_append,row_eB,HL.out] at this
  exact this
theorem slice_all (a:Option Addr) (n c:Nat) (h:n<=c) (hn:a=none->c=0) (w:World):(Instr.slice 60 (.slice a n c) (some (.int .i64 0)) (some (.int .i64 n)) none).run Tryz.prog w=.ok (.slice a n c) w:=by
 cases a with
 | none =>
  have:=hn rfl
  subst this
  obtain rfl:n=0:=by omega
  go_simp
 | some p=>go_simp
theorem readAt_any (S:Nat->Prop) (N D:Nat) (F:Fs) (f:Fi) (x:Str) (w:World) (h:Dk S N w D F) (hF:F x=some f) (hl:f.zs.length<=500000000) :
  Calls Tryz.prog 101 #[.pointer (some ⟨D,0,none⟩),sV x,.int .i64 0,.int .i64 9223372036854775807] w fun e w'=>∃ v,e=.returned (.tuple #[v,.nilIface])/\w'.ownsRow w.heap.size 5 1 v f.zs.length (row .u8 f.zs)/\Below w.heap.size w w':=by
 obtain⟨g,gs,mv,n,ns,Ms,ls,h⟩:=h
 obtain⟨h0,_⟩:=h.c0
 obtain⟨hn,hx,hS,hk⟩:=h.fs.nd x f hF
 have hf:=jZ D g n x ⟨f.B,0,none⟩ (ptF F) w h.fine h0 h.now hx (by simp[ptF,hF])
 obtain⟨va,vc,hv⟩:=zZ hn.own
 have hown:=hn.own
 rw[hv] at hown
 have hcl:=clone_bytes va vc f.zs w (sl_own hown) hl
 have hvc:f.zs.length<=vc:=(sl_own hown).capl
 have hvn:va=none->vc=0:=(sl_own hown).nil
 have hbx:=hn.box
 rw[hv] at hbx
 obtain⟨fB,HFB⟩:=nm_ f.B
 obtain⟨lx,HLX⟩:=nm_ f.zs.length
 rw[HFB.out] at hf hbx
 rw[HLX.out] at hbx hcl hl hvc ⊢
 have hb0:w.cell? ⟨fB,0,none⟩=some (.slice va lx vc):=by simp[World.cell?,hbx]
 have hsl:(Instr.slice 60 (.slice va lx vc) (some (.int .i64 0)) (some (.int .i64 lx)) none).run Tryz.prog w=.ok (.slice va lx vc) w:=slice_all va lx vc hvc hvn w
 have m1:min (0:Int) (lx:Int)=0:=by omega
 have m2:max (9223372036854775807:Int) 0=9223372036854775807:=by decide
 have m3:min (9223372036854775807:Int) (lx:Int)=(lx:Int):=by omega
 unfold sV at hf ⊢
 clear hown hbx hn hk hv
 go_enter Tryz.func101,Tryz.ntmps101
 go_wp2_with (first
  | (go_at_call 42;refine hf.mono ?_;rintro e w' ⟨rfl,rfl⟩)
  | (go_at_call 14;refine hcl.mono ?_;rintro e w' ⟨v,rfl,k1,k2⟩))
 exact bodyPost_ret (results_tmp2 Tryz.results101 _ _ _) rfl ⟨v,rfl,k1,k2⟩
theorem readAt_none (S:Nat->Prop) (N D:Nat) (F:Fs) (x:Str) (a n:Int) (w:World) (h:Dk S N w D F) (hF:F x=none) (hx:x.length<=4000) :
  Calls Tryz.prog 101 #[.pointer (some ⟨D,0,none⟩),sV x,.int .i64 a,.int .i64 n] w fun e w'=>e=.returned (.tuple #[.slice none 0 0,.iface 171 (.pointer (some ⟨w.heap.size,0,none⟩))])/\w'=w.alloc (.cells #[sV x,.int .i64 3] 173 (0,0)):=by
 obtain⟨g,gs,mv,k,ns,Ms,ls,h⟩:=h
 obtain⟨h0,_⟩:=h.c0
 have hf:=find_none D g k x (ptF F) w h.fine h0 h.now hx (by simp[ptF,hF])
 unfold sV at hf ⊢
 go_enter Tryz.func101,Tryz.ntmps101
 go_wp2_with (go_at_call 42;refine hf.mono ?_;rintro e w' ⟨rfl,rfl⟩)
 exact bodyPost_ret (results_tmp2 Tryz.results101 _ _ _) rfl ⟨rfl,rfl⟩
theorem read_any (S:Nat->Prop) (N D:Nat) (F:Fs) (f:Fi) (x:Str) (w:World) (h:Dk S N w D F) (hF:F x=some f) (hl:f.zs.length<=500000000) :
  Calls Tryz.prog 65 #[.pointer (some ⟨D,0,none⟩),sV x] w fun e w'=>∃ v,e=.returned (.tuple #[v,.nilIface])/\w'.ownsRow w.heap.size 5 1 v f.zs.length (row .u8 f.zs)/\Below w.heap.size w w':=by
 have hr:=readAt_any S N D F f x w h hF hl
 unfold sV at hr ⊢
 go_enter Tryz.func65,Tryz.ntmps65
 go_wp2_with (go_at_call 101;refine hr.mono ?_;rintro e w' ⟨v,rfl,k1,k2⟩)
 exact bodyPost_ret (results_tmp2 Tryz.results65 _ _ _) rfl ⟨v,rfl,k1,k2⟩
theorem read_none (S:Nat->Prop) (N D:Nat) (F:Fs) (x:Str) (w:World) (h:Dk S N w D F) (hF:F x=none) (hx:x.length<=4000) :
  Calls Tryz.prog 65 #[.pointer (some ⟨D,0,none⟩),sV x] w fun e w'=>e=.returned (.tuple #[.slice none 0 0,.iface 171 (.pointer (some ⟨w.heap.size,0,none⟩))])/\w'=w.alloc (.cells #[sV x,.int .i64 3] 173 (0,0)):=by
 have hr:=readAt_none S N D F x 0 9223372036854775807 w h hF hx
 unfold sV at hr ⊢
 go_enter Tryz.func65,Tryz.ntmps65
 go_wp2_with (go_at_call 101;refine hr.mono ?_;rintro e w' ⟨rfl,rfl⟩)
 exact bodyPost_ret (results_tmp2 Tryz.results65 _ _ _) rfl ⟨rfl,rfl⟩
theorem mk50 (w:World):(Instr.makeMap 50 none).run Tryz.prog w=.ok (.map (some w.heap.size)) (w.alloc (.map #[] 0)):=by kernel_rfl
theorem newDisk_any (w:World):Calls Tryz.prog 5 #[.int .i64 1099511627776] w fun e w'=>∃ D,e=.returned (.pointer (some ⟨D,0,none⟩))/\w.heap.size<=D/\Dk (fun i=>w.heap.size<=i/\i<w'.heap.size) 0 w' D (fun _=>none)/\Below w.heap.size w w':=by
 obtain⟨o,HO⟩:=nn_ (dkB w.heap.size (w.heap.size+1) (.slice none 0 0))
 have hs1:(w.alloc (.map #[] 0)).heap.size=w.heap.size+1:=by simp
 have hs2:((w.alloc (.map #[] 0)).alloc (.map #[] 0)).heap.size=w.heap.size+2:=by simp
 have hs3:(((w.alloc (.map #[] 0)).alloc (.map #[] 0)).alloc o).heap.size=w.heap.size+3:=by simp
 have HE:Hid (Dk (fun i=>w.heap.size<=i/\i<(((w.alloc (.map #[] 0)).alloc (.map #[] 0)).alloc o).heap.size) 0 (((w.alloc (.map #[] 0)).alloc (.map #[] 0)).alloc o) (w.heap.size+2) (fun _=>none)/\Below w.heap.size w (((w.alloc (.map #[] 0)).alloc (.map #[] 0)).alloc o)):=hid ⟨⟨w.heap.size,w.heap.size+1,.slice none 0 0,0,0,fun _=>none,[],by have:=heap_alloc_new ((w.alloc (.map #[] 0)).alloc (.map #[] 0)) o;rw[hs2] at this;rw[this,HO.out],((YV _ w).alloc _).alloc _,by have:=(YV (.pointer none) (w.alloc (.map #[] 0))).alloc o;rw[hs1] at this;exact this,by omega,⟨fun x f h=>(by cases h),fun x y f k h=>(by cases h)⟩,⟨World.ownsRow_nil _ _ _ _,fun p hp=>by simp at hp,fun k hk=>by cases hk⟩,⟨by omega,by simp⟩,⟨by omega,by omega⟩,⟨by omega,by omega⟩,⟨by omega,by omega⟩⟩,(((Below.refl _ w).alloc (Nat.le_refl _) _).alloc (by omega) _).alloc (by omega) _⟩
 rw[HO.out] at HE
 unfold dkB at HE
 go_enter Tryz.func5,Tryz.ntmps5
 have hmk:=mk50
 go_wp2_with fail
 exact bodyPost_ret (results_tmp Tryz.results5 _ _ _) rfl ⟨_,rfl,by omega,HE.out⟩
end Go.Proofs.YtgliaiemkfopeaaGreatDoor.K
namespace Go.Proofs
open Go.Shelf
def Tryz.keysT_ren:Go.Shelf.Ren:=⟨fun | 7=>99 | 10=>135 | n=>n,fun | 23=>105 | 26=>9 | 3=>125 | 28=>190 | 0=>0 | 27=>189 | 33=>133 | 4=>4 | n=>n,fun | n=>n⟩
theorem Tryz.keysT:Go.Proofs.SlLaysZ.n7 Tryz.prog Tryz.keysT_ren:={
 mixed:=by kernel_rfl
 f7:=⟨Tryz.f99.name,by decide,Tryz.func99.trans (congrArg some (by kernel_rfl))⟩
 f10:=⟨Tryz.f135.name,by decide,Tryz.func135.trans (congrArg some (by kernel_rfl))⟩
 t0:=Tryz.underlying0
 a0:=Tryz.isAgg0
 z0:=Tryz.sizeOf0
 v0:=Tryz.zeroValue0
 t4:=Tryz.underlying4
 a4:=Tryz.isAgg4
 z4:=Tryz.sizeOf4
 v4:=Tryz.zeroValue4
 t23:=Tryz.underlying105
 a23:=Tryz.isAgg105
 z23:=Tryz.sizeOf105
 v23:=Tryz.zeroValue105
 t26:=Tryz.underlying9
 a26:=Tryz.isAgg9
 z26:=Tryz.sizeOf9
 v26:=Tryz.zeroValue9
 t27:=Tryz.underlying189
 a27:=Tryz.isAgg189
 z27:=Tryz.sizeOf189
 v27:=Tryz.zeroValue189
 t28:=Tryz.underlying190
 a28:=Tryz.isAgg190
 z28:=Tryz.sizeOf190
 v28:=Tryz.zeroValue190
 t33:=Tryz.underlying133
 a33:=Tryz.isAgg133
 z33:=Tryz.sizeOf133
 v33:=Tryz.zeroValue133 }
def Tryz.sortedT_ren:Go.Shelf.Ren:=⟨fun | 6=>98 | 8=>134 | 9=>41 | 11=>163 | 13=>77 | 12=>76 | 23=>118 | 24=>119 | 14=>109 | 15=>110 | 16=>111 | 17=>112 | 18=>113 | 19=>114 | 20=>115 | 21=>116 | 22=>117 | 25=>138 | 26=>139 | 27=>140 | 28=>141 | 29=>142 | 30=>143 | 31=>170 | n=>n,fun | 26=>9 | 28=>190 | 24=>64 | 0=>0 | 3=>3 | 37=>39 | 48=>218 | 50=>220 | 4=>4 | 40=>211 | 39=>210 | 45=>215 | 5=>5 | 9=>9 | 51=>238 | 55=>242 | 57=>274 | 58=>275 | 33=>133 | n=>n,fun | n=>n⟩
theorem Tryz.sortedT:Go.Proofs.SlLaysZ.n6 Tryz.prog Tryz.sortedT_ren:={
 mixed:=by kernel_rfl
 f6:=⟨Tryz.f98.name,by decide,Tryz.func98.trans (congrArg some (by kernel_rfl))⟩
 f8:=⟨Tryz.f134.name,by decide,Tryz.func134.trans (congrArg some (by kernel_rfl))⟩
 f11:=⟨Tryz.f163.name,by decide,Tryz.func163.trans (congrArg some (by kernel_rfl))⟩
 t0:=Tryz.underlying0
 a0:=Tryz.isAgg0
 z0:=Tryz.sizeOf0
 v0:=Tryz.zeroValue0
 t24:=Tryz.underlying64
 a24:=Tryz.isAgg64
 z24:=Tryz.sizeOf64
 v24:=Tryz.zeroValue64
 t26:=Tryz.underlying9
 a26:=Tryz.isAgg9
 z26:=Tryz.sizeOf9
 v26:=Tryz.zeroValue9
 t28:=Tryz.underlying190
 a28:=Tryz.isAgg190
 z28:=Tryz.sizeOf190
 v28:=Tryz.zeroValue190
 i26:=by kernel_rfl }
def Tryz.sortT_ren:Go.Shelf.Ren:=⟨fun | 6=>41 | 8=>77 | 9=>76 | 19=>118 | 20=>119 | 21=>109 | 22=>110 | 23=>111 | 24=>112 | 25=>113 | 26=>114 | 27=>115 | 28=>116 | 29=>117 | 36=>138 | 31=>139 | 32=>140 | 37=>141 | 38=>142 | 39=>143 | 41=>170 | n=>n,fun | 27=>64 | 29=>9 | 3=>3 | 32=>39 | 26=>64 | 0=>0 | 44=>218 | 46=>220 | 4=>4 | 36=>211 | 35=>210 | 41=>215 | 5=>5 | 9=>9 | 53=>238 | 57=>242 | 63=>274 | 64=>275 | n=>n,fun | n=>n⟩
theorem Tryz.sortT:Go.Proofs.SlLaysM.n6 Tryz.prog Tryz.sortT_ren:={
 mixed:=by kernel_rfl
 f6:=⟨Tryz.f41.name,by decide,Tryz.func41.trans (congrArg some (by kernel_rfl))⟩
 f8:=Tryz.func77.trans (congrArg some (by kernel_rfl))
 f9:=⟨Tryz.f76.name,by decide,Tryz.func76.trans (congrArg some (by kernel_rfl))⟩
 f19:=Tryz.func118.trans (congrArg some (by kernel_rfl))
 f20:=Tryz.func119.trans (congrArg some (by kernel_rfl))
 f21:=⟨Tryz.f109.name,by decide,Tryz.func109.trans (congrArg some (by kernel_rfl))⟩
 f22:=⟨Tryz.f110.name,by decide,Tryz.func110.trans (congrArg some (by kernel_rfl))⟩
 f23:=⟨Tryz.f111.name,by decide,Tryz.func111.trans (congrArg some (by kernel_rfl))⟩
 f24:=⟨Tryz.f112.name,by decide,Tryz.func112.trans (congrArg some (by kernel_rfl))⟩
 f25:=⟨Tryz.f113.name,by decide,Tryz.func113.trans (congrArg some (by kernel_rfl))⟩
 f26:=⟨Tryz.f114.name,by decide,Tryz.func114.trans (congrArg some (by kernel_rfl))⟩
 f27:=⟨Tryz.f115.name,by decide,Tryz.func115.trans (congrArg some (by kernel_rfl))⟩
 f28:=⟨Tryz.f116.name,by decide,Tryz.func116.trans (congrArg some (by kernel_rfl))⟩
 f29:=⟨Tryz.f117.name,by decide,Tryz.func117.trans (congrArg some (by kernel_rfl))⟩
 f31:=Tryz.func139.trans (congrArg some (by kernel_rfl))
 f32:=Tryz.func140.trans (congrArg some (by kernel_rfl))
 f36:=⟨Tryz.f138.name,by decide,Tryz.func138.trans (congrArg some (by kernel_rfl))⟩
 f37:=⟨Tryz.f141.name,by decide,Tryz.func141.trans (congrArg some (by kernel_rfl))⟩
 f38:=⟨Tryz.f142.name,by decide,Tryz.func142.trans (congrArg some (by kernel_rfl))⟩
 f39:=⟨Tryz.f143.name,by decide,Tryz.func143.trans (congrArg some (by kernel_rfl))⟩
 f41:=⟨Tryz.f170.name,by decide,Tryz.func170.trans (congrArg some (by kernel_rfl))⟩
 t0:=Tryz.underlying0
 a0:=Tryz.isAgg0
 z0:=Tryz.sizeOf0
 v0:=Tryz.zeroValue0
 t3:=Tryz.underlying3
 a3:=Tryz.isAgg3
 z3:=Tryz.sizeOf3
 v3:=Tryz.zeroValue3
 t4:=Tryz.underlying4
 a4:=Tryz.isAgg4
 z4:=Tryz.sizeOf4
 v4:=Tryz.zeroValue4
 t5:=Tryz.underlying5
 a5:=Tryz.isAgg5
 z5:=Tryz.sizeOf5
 v5:=Tryz.zeroValue5
 t9:=Tryz.underlying9
 a9:=Tryz.isAgg9
 z9:=Tryz.sizeOf9
 v9:=Tryz.zeroValue9
 t26:=Tryz.underlying64
 a26:=Tryz.isAgg64
 z26:=Tryz.sizeOf64
 v26:=Tryz.zeroValue64
 t27:=Tryz.underlying64
 a27:=Tryz.isAgg64
 z27:=Tryz.sizeOf64
 v27:=Tryz.zeroValue64
 t29:=Tryz.underlying9
 a29:=Tryz.isAgg9
 z29:=Tryz.sizeOf9
 v29:=Tryz.zeroValue9
 t32:=Tryz.underlying39
 a32:=Tryz.isAgg39
 z32:=Tryz.sizeOf39
 v32:=Tryz.zeroValue39
 t35:=Tryz.underlying210
 a35:=Tryz.isAgg210
 z35:=Tryz.sizeOf210
 v35:=Tryz.zeroValue210
 t36:=Tryz.underlying211
 a36:=Tryz.isAgg211
 z36:=Tryz.sizeOf211
 v36:=Tryz.zeroValue211
 t41:=Tryz.underlying215
 a41:=Tryz.isAgg215
 z41:=Tryz.sizeOf215
 v41:=Tryz.zeroValue215
 t44:=Tryz.underlying218
 a44:=Tryz.isAgg218
 z44:=Tryz.sizeOf218
 v44:=Tryz.zeroValue218
 t46:=Tryz.underlying220
 a46:=Tryz.isAgg220
 z46:=Tryz.sizeOf220
 v46:=Tryz.zeroValue220
 t53:=Tryz.underlying238
 a53:=Tryz.isAgg238
 z53:=Tryz.sizeOf238
 v53:=Tryz.zeroValue238
 t57:=Tryz.underlying242
 a57:=Tryz.isAgg242
 z57:=Tryz.sizeOf242
 v57:=Tryz.zeroValue242
 t63:=Tryz.underlying274
 a63:=Tryz.isAgg274
 z63:=Tryz.sizeOf274
 v63:=Tryz.zeroValue274
 t64:=Tryz.underlying275
 a64:=Tryz.isAgg275
 z64:=Tryz.sizeOf275
 v64:=Tryz.zeroValue275 }
end Go.Proofs
namespace Go.Proofs.YtgliaiemkfopeaaGreatDoor.K
open Go.RowKit
abbrev srt (ss:List Str):List Str:=ss.mergeSort fun x y=>decide (x<=y)
theorem sort_any (B:Nat) (v:Value) (ss:List Str) (w:World) (h:w.ownsRow B 9 1 v ss.length (ss.map sV)) (hl:ss.length<=1000000) :
  Calls Tryz.prog 41 #[v] w fun e w'=>e=.returned (.tuple #[])/\w'.ownsRow B 9 1 v ss.length ((srt ss).map sV)/\w.grownBy w' v.ownBlock:=by
 obtain⟨hx,⟨rfl,h0⟩ | ⟨g,cap,cur,rfl,hb,hh,h1,h2,h3,h4⟩⟩:=h
 ·refine(AnyM.slices_Sort_string_none Tryz.sortT none 0 w).mono ?_
  rintro e w' ⟨rfl,rfl⟩
  have:ss=[]:=List.length_eq_zero_iff.1 h0
  subst this
  exact⟨rfl,by simp only[srt,List.mergeSort_nil,List.map_nil,List.length_nil];exact World.ownsRow_nil _ _ _ _,⟨rfl,rfl,rfl,Nat.le_refl _,fun _ _ _=>rfl⟩⟩
 ·refine(AnyM.slices_Sort_string Tryz.sortT g 0 cap ss w (holds_of_block hh (by rw[Nat.mul_one] at h4;exact h4)) (z7 hh) (by omega)).mono ?_
  rintro e w' ⟨rfl,n,os,rfl⟩
  exact⟨rfl,ownsRow_sorted (by simp) hb hh h1 h2 h3,grownBy_sorted _⟩
theorem uk (ss:List Str):(srt ss).Perm ss:=List.mergeSort_perm _ _
theorem Tryz.results15:Tryz.f15.results=#[.tmp 2]:=by kernel_rfl
def eT (x:Str):List Value:=[sV x]
theorem jz (l:List Str):l.flatMap eT=l.map sV:=by
 induction l with
 | nil=>rfl
 | cons x l ih=>simp only[List.flatMap_cons,ih];rfl
theorem info9:(Tryz.prog.info? 9).map (fun i=>(i.zero,i.size,i.bytes))=some (some (.string ⟨#[]⟩),1,16):=by kernel_rfl
theorem und64:Tryz.prog.underlying 64=some (.slice 9):=by kernel_rfl
theorem TR.own {z:Value} {w:World} {g r n c:Nat} {M:Str->Option Value} {L:Str->Bool} (h:TR z w g r n M L c) {B e k m:Nat} {v:Value} {xs:List Value} (ho:w.ownsRow B e k v m xs):v.ownBlock ≠ some r/\v.ownBlock ≠ some g:=by
 obtain⟨D,lf,⟨es,ck,si,se,c0,hb,_,_,_,hr,_⟩,_⟩:=h
 refine⟨fun e=>?_,fun e=>?_⟩
 ·obtain⟨c,f,hc⟩:=vK ho _ e;rw[hr] at hc;cases hc
 ·obtain⟨c,f,hc⟩:=vK ho _ e;rw[hb] at hc;cases hc
set_option maxHeartbeats 400000 in
theorem list_any (S:Nat->Prop) (N D:Nat) (F:Fs) (w:World) (h:Dk S N w D F) (hN:N<=90000) :
  Calls Tryz.prog 15 #[.pointer (some ⟨D,0,none⟩)] w fun e w'=>∃ (v:Value) (ss:List Str),e=.returned v/\ss.Nodup/\(∀ y,y ∈ ss ↔ F y ≠ none)/\w'.ownsRow w.heap.size 9 1 v ss.length (ss.map sV)/\Below w.heap.size w w':=by
 obtain⟨g,gs,mv,n,ns,Ms,ls,h⟩:=h
 obtain⟨h0,_⟩:=h.c0
 obtain⟨w1,c0,hrg,hT,hg1,hs1⟩:=h.now.range kW
 have hn:=h.few
 have HB1:Hid (Below w.heap.size w w1):=hid ⟨hg1.os,hg1.tape,hg1.output,hg1.size,fun k hk=>hg1.block k hk (by simp)⟩
 have HT:Hid (TR (.pointer none) w1 g w.heap.size n (ptF F) (fun y=>(ptF F y).isSome) c0):=hT
 have HS:Hid (∀ y,F y ≠ none->y.length<=4000):=fun y hy=>by
  cases e:F y with
  | none=>exact absurd e hy
  | some f=>exact(h.fs.nd y f e).2.1
 have HC0:Hid (c0<=90000):=hid (by
  obtain⟨Dd,lf,h1,h2,h3⟩:=hT
  have:=h1.owns.size_le
  obtain⟨es,ck,si,se,q0,hb,F0,hs,hD,hr,hold,hcnt,rest⟩:=h1
  have:(leftOf es se).size<=es.size:=by unfold leftOf;exact Array.size_filter_le
  omega)
 obtain⟨r,HR⟩:=nm_ w.heap.size
 rw[HR.out] at hrg HT HB1 ⊢
 clear h hT hg1 hs1
 go_enter Tryz.func15,Tryz.ntmps15
 go_wp2_with (at_range;refine z8 rfl _ (vX rfl rfl hrg) ?_)
 go_frame
 go_loopg [3] c0 (fun q uv wr=>∃ (c:Nat) (L:Str->Bool) (ss:List Str) (v:Value),v=uv/\q=c/\Hid (ss.length+c<=90000)/\Hid (ss.Nodup/\∀ y,y ∈ ss ↔ (F y ≠ none/\L y=false))/\Hid (TR (.pointer none) wr g r n (ptF F) L c)/\Hid (Bx eT 1 9 w wr r v ss))
 case atStart =>
  refine⟨c0,_,[],_,rfl,rfl,hid (by simpa using HC0.out),hid ⟨List.nodup_nil,fun y=>?_⟩,HT,hid ⟨HB1.out,World.ownsRow_nil _ _ _ _,by have:=HB1.out.size;have:=HR.out;omega⟩⟩
  cases e:F y <;> simp[ptF,e]
 case round =>
  obtain⟨c,L,ss,v,hvu,hq,HL,HSS,HTR,HB⟩:=hrel
  subst hvu
  rcases HTR.out.next 0 with ⟨rfl,hall,hr⟩ | ⟨y,v2,w2,c',hL,hM,hr,hT2,hc,hg2,hs2,hen⟩
  ·have hso:=sort_any r v ss wr (by have:=HB.out.own;rw[jz] at this;exact this) (by have:=HL.out;omega)
   have HALL:=hid hall
   clear hall
   go_wp2_with (first
    | (at_next;refine z8 rfl _ (qY rfl rfl hr) ?_;go_frame)
    | (go_at_call 41;refine hso.mono ?_;rintro e w3 ⟨rfl,k1,k2⟩))
   refine bodyPost_ret (results_tmp Tryz.results15 _ _ _) rfl ⟨_,srt ss,rfl,(uk ss).nodup_iff.2 HSS.out.1,fun y=>?_,?_,?_⟩
   ·rw[(uk ss).mem_iff,HSS.out.2 y]
    constructor
    ·exact fun h=>h.1
    ·exact fun h=>⟨h,HALL.out y (HS.out y h)⟩
   ·rw[show (srt ss).length=ss.length from (uk ss).length_eq];exact k1
   ·exact HB.out.below.grown k2 HB.out.le (fun k hk=>(yq HB.out.own k hk).1)
  ·obtain⟨k,hk,rfl⟩:=ptF_some hM
   have hbel:Below r w w2:=HB.out.below.grown hg2 HB.out.le (fun k hk=>by cases hk;exact Nat.le_refl _)
   obtain⟨hr1,hr2⟩:=HTR.out.own HB.out.own
   have hbx:Bx eT 1 9 w (w2.alloc (.cells #[sV y] 9)) r v ss:=Bx.alloc ⟨hbel,HB.out.own.kept hg2 (.inr hr1),by rw[hs2];exact HB.out.le⟩ _
   have HBX:=hid hbx
   have HNS:Hid ((ss++[y]).Nodup/\∀ q,q ∈ ss++[y] ↔ (F q ≠ none/\(L q && decide (q ≠ y))=false)):=hid (by
    obtain⟨h1,h2⟩:=HSS.out
    have hny:y ∉ ss:=fun h=>by have:=((h2 y).1 h).2;rw[hL] at this;cases this
    refine⟨List.nodup_append.2 ⟨h1,by simp,fun a ha b hb=>by simp only[List.mem_singleton] at hb;subst hb;exact fun e=>hny (e ▸ ha)⟩,fun q=>?_⟩
    rw[List.mem_append,h2 q,List.mem_singleton]
    by_cases e:q=y
    ·subst e;simp[hk]
    ·simp[e])
   have HRW:Hid (w2.ownsRow r 9 1 v ss.length (ss.flatMap eT)):=hid (HB.out.own.kept hg2 (.inr hr1))
   have HT2:=hid hT2
   have HLC:Hid ((ss++[y]).length+c'<=90000):=hid (by have:=HL.out;rw[List.length_append,List.length_singleton];omega)
   have HLB:Hid (ss.length + [y].length<=1000000000):=hid (by have:=HL.out;simp only[List.length_singleton];omega)
   unfold sV at hr hen
   clear hbel hbx hT2 hM hk hg2 hs2 hr1 hr2 hL
   go_wp2_with (first
    | (at_next;refine z8 rfl _ (qY rfl rfl hr) ?_;go_frame)
    | (at_builtin;refine zj (enc:=eT) (k:=1) (d:=[]) rfl _ _ 64 9 und64 info9 rfl (by decide) (by decide) (fun x v hv=>by simp only[eT,List.mem_singleton] at hv;subst hv;rfl) rfl r v ss rfl HBX.out (some ⟨w2.heap.size,0,none⟩) 1 [y] rfl (yu (enc:=eT) w2 y 9) (fun x _=>rfl) HLB.out ?_;intro v3 w3 hb3 hg3 hm3;have HB3:=hid hb3;have HM3:=hid hm3;clear hb3 hg3 hm3))
   go_roundg c'
   case measure=>omega
   case rel =>
    have ht:=HT2.out
    obtain⟨q1,q2⟩:=ht.own HRW.out
    have hsz:=ht.lt.1
    have e1:∀ i,i<w2.heap.size->some i ≠ v.ownBlock->w3.heap[i]? = w2.heap[i]? := fun i hi hn=>(HM3.out.blk i (by simp;omega) hn).trans (Below.heap_alloc _ _ _ hi)
    exact⟨c',_,ss++[y],_,rfl,rfl,HLC,HNS,hid (ht.kept (e1 _ ht.tm.lt (fun e=>q2 e.symm)) (e1 _ hsz (fun e=>q1 e.symm))),HB3⟩
theorem Tryz.results7:Tryz.f7.results=#[.tmp 2]:=by kernel_rfl
structure Qa (C gc gsc kB:Nat) (ka:Option Addr) (kn kc:Nat) (W:World):Prop where
 c0:W.cell? ⟨C,0,none⟩=some (.map (some gc))
 c1:W.cell? ⟨C,1,none⟩=some (.map (some gsc))
 c2:W.cell? ⟨kB,0,none⟩=some (.slice ka kn kc)
structure Qb (C gc gsc:Nat) (x:Str) (p:Value) (W:World):Prop where
 c0:W.cell? ⟨C,0,none⟩=some (.map (some gc))
 c1:W.cell? ⟨C,1,none⟩=some (.map (some gsc))
 lk:(Instr.lookup 50 (.map (some gc)) (.string ⟨x.toArray⟩) false).run Tryz.prog W=.ok p W
theorem kz {w:World} {B e k n:Nat} {v:Value} {xs:List Value} (h:w.ownsRow B e k v n xs):w.ownsRow 0 e k v n xs:=by
 obtain⟨hl,h1 | ⟨g,cap,cur,hv,_,r⟩⟩:=h
 ·exact⟨hl,.inl h1⟩
 ·exact⟨hl,.inr ⟨g,cap,cur,hv,Nat.zero_le _,r⟩⟩
theorem TR.it {z:Value} {w:World} {g r n c:Nat} {M:Str->Option Value} {L:Str->Bool} (h:TR z w g r n M L c):∃ a b d e,w.heap[r]? = some (.mapIter a b d e):=by
 obtain⟨D,lf,⟨es,ck,si,se,c0,hb,_,_,_,hr,_⟩,_⟩:=h
 exact⟨_,_,_,_,hr⟩
def Cp (r:Nat) (x:Str) (F:Fs) (C:Nat) (L:Str->Bool) (wr:World):Prop := ∃ Fc,((Fc=(fun _=>none)/\Dk (fun i=>r<=i/\i<wr.heap.size) 0 wr C Fc/\∀ y,L y=(F y).isSome) ∨ (Dk (fun i=>r<=i/\i<wr.heap.size) 2 wr C Fc/\(∀ y,y ≠ x->Fc y=none)/\(Fc x).map (·.zs)=(F x).map (·.zs)/\∀ y,L y=false))
theorem Tb {w w':World} (h:w.grownBy w' none):Below w.heap.size w w':=⟨h.os,h.tape,h.output,h.size,fun k hk=>h.block k hk (by simp)⟩
set_option maxHeartbeats 400000 in
theorem copy_any (S:Nat->Prop) (N D:Nat) (F:Fs) (x:Str) (w:World) (h:Dk S N w D F) (hone:∀ y,F y ≠ none->y=x) (hl:fl F x<=500000000) :
  Calls Tryz.prog 7 #[.pointer (some ⟨D,0,none⟩)] w fun e w'=>∃ C,e=.returned (.pointer (some ⟨C,0,none⟩))/\Below w.heap.size w w'/\w.heap.size<=C/\∃ Fc,Dk (fun i=>w.heap.size<=i/\i<w'.heap.size) 2 w' C Fc/\(∀ y,y ≠ x->Fc y=none)/\(Fc x).map (·.zs)=(F x).map (·.zs):=by
 obtain⟨g,gs,mv,n,ns,Ms,ls,h⟩:=h
 obtain⟨h0,_,_,h3,_⟩:=h.c0
 have hnew:=newDisk_any w
 have H:Hid (Dk0 S N w D F g gs mv n ns Ms ls):=h
 obtain⟨r,HR⟩:=nm_ w.heap.size
 rw[HR.out] at hnew ⊢
 have HDW:Hid (∀ W,Below r w W->Dk0 S N W D F g gs mv n ns Ms ls):=fun W hW=>H.out.below (by rw[HR.out];exact hW)
 have HONE:=hid hone
 have HFL:=hid hl
 clear h hone hl
 go_enter Tryz.func7,Tryz.ntmps7
 go_wp2_with (first
  | (go_at_call 5;refine hnew.mono ?_;rintro e w1 ⟨C,rfl,hC,hDC,hB1⟩;have hk1:=((HDW.out _ hB1).c0).1;have HDC:=hid hDC;have HB1:=hid hB1;obtain⟨w2,c0,hrg,hT,hg1,hs1⟩:=(HDW.out _ hB1).now.range kW;have HT:=hid hT;have HG1:=hid hg1;have HS1:=hid hs1;clear hDC hB1 hT hg1 hs1)
  | (at_range;refine z8 rfl _ (vX rfl rfl hrg) ?_))
 go_frame
 go_loopg [4] c0 (fun q _ wr=>∃ (c:Nat) (L:Str->Bool),q=c/\Hid (TR (.pointer none) wr g w1.heap.size n (ptF F) L c)/\Hid (Below r w wr)/\Hid (Cp r x F C L wr))
 case atStart=>exact⟨c0,_,rfl,HT,hid (HB1.out.trans ((Tb (HG1.out)).mono (by have:=HB1.out.size;have:=HR.out;omega))),hid ⟨fun _=>none,.inl ⟨rfl,(HDC.out.below (Tb HG1.out)).mono (fun i hi=>⟨hi.1,by have:=HS1.out;omega⟩) (by omega),fun y=>by cases e:F y <;> simp[ptF,e]⟩⟩⟩
 case round =>
  obtain⟨c,L,hq,HTR,HW,HCP⟩:=hrel
  rcases HTR.out.next 0 with ⟨rfl,hall,hr⟩ | ⟨y,v,w2,c',hL,hM,hr,hT2,hc,hg2,hs2,hen⟩
  ·have HALL:=hid hall
   clear hall
   go_wp2_with (at_next;refine z8 rfl _ (qY rfl rfl hr) ?_;go_frame)
   refine bodyPost_ret (results_tmp Tryz.results7 _ _ _) rfl ⟨C,rfl,HW.out,hC,?_⟩
   obtain⟨Fc,⟨rfl,h1,h3⟩ | ⟨h1,h2,h3,_⟩⟩:=HCP.out
   ·refine⟨_,h1.mono (fun _ h=>h) (by omega),fun _ _=>rfl,?_⟩
    cases e:F x with
    | none=>rfl
    | some f =>
     have:=HALL.out x ((HDW.out _ HW.out).fs.nd x f e).2.1
     rw[h3 x,e] at this
     cases this
   ·exact⟨Fc,h1,h2,h3⟩
  ·obtain⟨k,hk,rfl⟩:=ptF_some hM
   obtain rfl:y=x:=HONE.out y (by rw[hk];simp)
   obtain⟨Fc,⟨rfl,hdk,h3⟩ | ⟨_,_,_,h4⟩⟩:=HCP.out
   rotate_left
   ·rw[h4 y] at hL;cases hL
   obtain⟨gc,gsc,mvc,nc,nsc,Msc,lsc,hd⟩:=hdk
   have tI:Tf 0 wr w2:=HTR.out.tf hg2 0
   have hd2:=hd.tf tI (by omega) (by decide)
   have hr1:r<=w1.heap.size:=by have:=HB1.out.size;have:=HR.out;omega
   have hrw:w1.heap.size<w2.heap.size:=by have:=hT2.lt.1;omega
   have hW2:Below r w w2:=HW.out.grown hg2 (by omega) (fun k hk=>by cases hk;exact hr1)
   obtain⟨hnk,hyl,-⟩:=(HDW.out _ hW2).fs.nd y k hk
   obtain⟨ka,kc,hkv⟩:=zZ hnk.own
   obtain⟨kn,HKN⟩:=nm_ k.zs.length
   obtain⟨kB,HKB⟩:=nm_ k.B
   have hkn:k.zs.length<=500000000:=by have:=HFL.out;unfold fl at this;rw[hk] at this;exact this
   have HSL:Hid (∀ W,Below w2.heap.size w2 W->Sl W ka kc k.zs):=fun W hW=>by
    have:=hnk.own
    rw[hkv] at this
    exact(sl_own this).below hW
   have HQ:Hid (∀ W,Below w2.heap.size w2 W->Qa C gc gsc kB ka kn kc W):=fun W hW=>by
    have h1:=(hd2.below hW).c0
    have h2:=(hnk.tf (T:=0) (.below hW) (by decide) (by decide)).box
    rw[hkv,HKB.out,HKN.out] at h2
    exact⟨h1.1,h1.2.1,by simp[World.cell?,h2]⟩
   have HD2:=hid hd2
   have HW2:=hid hW2
   have HT2:=hid hT2
   rw[HKB.out] at hr hen
   unfold sV at hr hen
   clear hd hd2 hW2 hT2 tI hnk hg2 hkv hM
   go_wp2_with (at_next;refine z8 rfl _ (qY rfl rfl hr) ?_;go_frame)
   have hSd:Qa C gc gsc kB ka kn kc w2.drew:=HQ.out _ (zv _ _ 1)
   refine wp_region_held_drew (S:=Qa C gc gsc kB ka kn kc) (by kernel_rfl) hSd (fun hHeld=>?_)
   clear hSd
   have hb0:Below w2.heap.size w2 w2.drew:=zv _ _ 1
   have hz0:w2.drew.heap.size=w2.heap.size:=rfl
   generalize w2.drew=u0 at hHeld hb0 hz0 ⊢
   iterate 9
    refine qq (v:=?_) hHeld ?_ ?_
    rotate_left
    ·rintro w' ⟨c0,c1,c2⟩;go_simp;rfl
    try simp only[Act.put,sL]
   refine tZ (i:=10) hHeld ?_
   try simp only[Act.put,sL]
   refine tZ (i:=11) hHeld ?_
   try simp only[Act.put,sL]
   refine tZ (i:=12) hHeld ?_
   try simp only[Act.put,sL]
   refine tZ (i:=13) hHeld ?_
   try simp only[Act.put,sL]
   refine tZ (i:=14) hHeld ?_
   try simp only[Act.put,sL]
   have hcl:=clone_bytes ka kc k.zs u0 (HSL.out _ hb0) hkn
   rw[HKN.out] at hcl
   refine wpAnyH_ready (rs:=[9]) (by kernel_rfl) (by simp) ?_
   refine xj rfl (fun KK hKK=>?_) AllReadyH.nil
   refine qJ (by rfl) 14 [.tmp 29] #[60] [.slice ka kn kc] _ (by rfl) (by rfl) (fun w=>by kernel_rfl) hcl ?_
   rintro e u1 ⟨cv,rfl,hcv,hb1⟩
   have hb01:Below w2.heap.size w2 u1:=hb0.trans (hb1.mono (by omega))
   refine⟨_,rfl,hKK.out _ _ (HQ.out _ hb01) (fun hHeld2=>?_)⟩
   clear hKK KK hHeld
   have hHeld:=hHeld2
   clear hHeld2
   obtain⟨va,vn,vc,rfl⟩:=own_sl hcv
   try simp only[Act.put,sL]
   refine tZ (i:=15) hHeld ?_
   try simp only[Act.put,sL]
   obtain⟨u2,HU2⟩:=nm_ (u1.alloc (.cells #[.slice va vn vc,.int .i64 kn] 63))
   have hb12:Below u1.heap.size u1 u2:=by rw[<-HU2.out];exact(Below.refl _ _).alloc (Nat.le_refl _) _
   have hb02:Below w2.heap.size w2 u2:=hb01.trans (hb12.mono hb01.size)
   refine wpAnyH_ready (rs:=[16]) (by kernel_rfl) (by simp) ?_
   refine xj rfl (fun KK hKK=>?_) AllReadyH.nil
   refine jy (by rfl) (.pointer (some ⟨u1.heap.size,0,none⟩)) (w':=u2) (by rw[<-HU2.out];go_simp) ?_
   refine hKK.out _ _ (HQ.out _ hb02) (fun hHeld2=>?_)
   clear hKK KK hHeld
   have hHeld:=hHeld2
   clear hHeld2
   try simp only[Act.put,sL]
   obtain⟨u3,hpr,hTM3,hg3⟩:=((HD2.out.below hb02).now).put (by have:=HD2.out.few;omega) kW hyl (.pointer (some ⟨u1.heap.size,0,none⟩))
   unfold sV at hpr
   refine wpAnyH_ready (rs:=[17]) (by kernel_rfl) (by simp) ?_
   refine xj rfl (fun KK hKK=>?_) AllReadyH.nil
   refine step_skip (by rfl) (x9 rfl rfl rfl rfl hpr) ?_
   have hC3:∀ (i:Nat) (c:Array Value) (T:TypeId) (f:Nat × Nat),u2.heap[i]? = some (.cells c T f)->u3.heap[i]? = some (.cells c T f):=fun i c T f hi=>by
    obtain⟨es,ck,hgb⟩:=(HD2.out.below hb02).now.box
    exact Tf.grown hgb hg3 hi
   have hbC:=hC3 _ _ _ _ (HD2.out.below hb02).box
   have hq3:Qa C gc gsc kB ka kn kc u3:=by
    have h5:=((HDW.out _ (HW2.out.trans (hb02.mono (by omega)))).fs.nd y k hk).1.box
    have h6:=hC3 _ _ _ _ h5
    obtain⟨a1,a2,a3⟩:=HQ.out _ hb02
    unfold dkB at hbC
    refine⟨by simp[World.cell?,hbC],by simp[World.cell?,hbC],?_⟩
    rw[<-a3]
    exact World.cell?_of_block (a:=⟨kB,0,none⟩) (by rw[<-HKB.out];exact h6.trans h5.symm)
   refine hKK.out _ _ hq3 (fun hHeld2=>?_)
   clear hKK KK hHeld hHeld2
   try simp only[Act.put,sL]
   refine wpAnyH_done (by kernel_rfl) ?_ _
   go_wp2_with fail
   have hlk:(Instr.lookup 50 (.map (some gc)) (.string ⟨y.toArray⟩) false).run Tryz.prog u3.drew=.ok (.pointer (some ⟨u1.heap.size,0,none⟩)) u3.drew:=by
    have:=(hTM3.sm (W:=u3.drew) rfl).look1 kW (zero59 _) hyl
    simp only[if_true,Option.getD_some] at this
    exact this
   have hLK:∀ W:World,W.heap[gc]? = u3.heap[gc]?->(Instr.lookup 50 (.map (some gc)) (.string ⟨y.toArray⟩) false).run Tryz.prog W=.ok (.pointer (some ⟨u1.heap.size,0,none⟩)) W:=fun W hW=>by
    have:=(hTM3.sm (W:=W) hW).look1 kW (zero59 _) hyl
    simp only[if_true,Option.getD_some] at this
    exact this
   obtain⟨u5,hpr5,hTM5,hg5⟩:=(((HD2.out.below hb02).safe.sm (W:=u3) (hg3.block _ (HD2.out.below hb02).safe.lt (fun e=>HD2.out.ne (Option.some.inj e).symm))).sm (W:=u3.drew) rfl).put (by have:=HD2.out.few;omega) kW hyl (.pointer (some ⟨u1.heap.size,0,none⟩))
   unfold sV at hpr5
   refine wp_region_held_drew (S:=Qb C gc gsc y (.pointer (some ⟨u1.heap.size,0,none⟩))) (by kernel_rfl) ⟨hq3.c0,hq3.c1,hlk⟩ (fun hHeld=>?_)
   iterate 10
    refine qq (v:=?_) hHeld ?_ ?_
    rotate_left
    ·rintro w' ⟨c0,c1,lk⟩;go_simp;rfl
    try simp only[Act.put,sL]
   refine takeY (i:=10) (v:=.pointer (some ⟨u1.heap.size,0,none⟩)) hHeld (fun w' hw'=>jY (mv:=.map (some gc)) (kv:=.string ⟨y.toArray⟩) rfl rfl rfl hw'.lk) ?_
   try simp only[Act.put,sL]
   refine wpAnyH_ready (rs:=[11]) (by kernel_rfl) (by simp) ?_
   refine xj rfl (fun KK hKK=>?_) AllReadyH.nil
   refine step_skip (by rfl) (x9 (mv:=.map (some gsc)) (kv:=.string ⟨y.toArray⟩) (v:=.pointer (some ⟨u1.heap.size,0,none⟩)) rfl rfl rfl rfl hpr5) ?_
   have hgn:gc ≠ gsc:=HD2.out.ne
   have hC5:∀ (i:Nat) (c:Array Value) (T:TypeId) (f:Nat × Nat),u2.heap[i]? = some (.cells c T f)->u5.heap[i]? = some (.cells c T f):=fun i c T f hi=>by
    obtain⟨es,ck,hgb⟩:=hTM5.box
    have h7:=hC3 i c T f hi
    refine(hg5.block i (z7 h7) fun e=>?_).trans h7
    cases e
    obtain⟨es',ck',hgb'⟩:=((HD2.out.below hb02).safe.sm (W:=u3) (hg3.block _ (HD2.out.below hb02).safe.lt (fun e=>hgn (Option.some.inj e).symm))).box
    rw[h7] at hgb'
    cases hgb'
   have hgc5:u5.heap[gc]? = u3.heap[gc]? := hg5.block _ hTM3.lt (fun e=>hgn (Option.some.inj e))
   have hb5:=hC5 _ _ _ _ (HD2.out.below hb02).box
   have hq5:Qb C gc gsc y (.pointer (some ⟨u1.heap.size,0,none⟩)) u5:=by
    unfold dkB at hb5
    exact⟨by simp[World.cell?,hb5],by simp[World.cell?,hb5],hLK u5 hgc5⟩
   refine hKK.out _ _ hq5 (fun hHeld2=>?_)
   clear hKK KK hHeld hHeld2
   try simp only[Act.put,sL]
   refine wpAnyH_done (by kernel_rfl) ?_ _
   go_wp2_with fail
   go_roundg c'
   case measure=>omega
   case rel =>
    have hS:=HD2.out.own
    have hz2:=hb02.size
    have hz12:=hb12.size
    have hz3:=hg3.size
    have hz5:u3.heap.size<=u5.heap.size:=hg5.size
    have hz1:w2.heap.size<=u1.heap.size:=hb01.size
    have hz21:u2.heap.size=u1.heap.size+1:=by rw[<-HU2.out];simp
    have hrw2:r<=w2.heap.size:=by have:=HW2.out.size;have:=HR.out;omega
    have hgl:g<r:=by rw[<-HR.out];exact H.out.now.lt
    have hB5:Below r w u5:=((HW2.out.trans (hb02.mono hrw2)).grown hg3 (by omega) (fun q hq=>by cases hq;exact hS.2.1.1)).trans ((Below.refl r u3).grown ⟨hg5.os,hg5.tape,hg5.output,hg5.size,hg5.block⟩ (by omega) (fun q hq=>by cases hq;exact hS.2.2.1))
    obtain⟨m1,m2,m3,m4,hit⟩:=HT2.out.it
    have hk5:∀ (i:Nat) (o:Obj),w2.heap[i]? = some o->(∀ e k,o ≠ .map e k)->u5.heap[i]? = some o:=fun i o hi ho=>by
     have h2:u2.heap[i]? = some o:=(hb02.block i (z7 hi)).trans hi
     obtain⟨es,ck,hgb⟩:=(HD2.out.below hb02).now.box
     obtain⟨es',ck',hgb'⟩:=(HD2.out.below hb02).safe.box
     have h3':u3.heap[i]? = some o:=(hg3.block i (z7 h2) (fun e=>by cases e;rw[hgb] at h2;cases h2;exact ho _ _ rfl)).trans h2
     exact(hg5.block i (z7 h3') (fun e=>by cases e;rw[hgb'] at h2;cases h2;exact ho _ _ rfl)).trans h3'
    have hv5:u5.ownsRow 0 5 1 (.slice va vn vc) k.zs.length (row .u8 k.zs):=by
     rw[HKN.out]
     obtain⟨hl,h1 | ⟨q,cap,cur,hv,_,hh,rr⟩⟩:=hcv
     ·exact⟨hl,.inl h1⟩
     ·exact⟨hl,.inr ⟨q,cap,cur,hv,Nat.zero_le _,hC5 _ _ _ _ ((hb12.block q (z7 hh)).trans hh),rr⟩⟩
    have hvl:∀ q,(Value.slice va vn vc).ownBlock=some q->r<=q/\q<u5.heap.size:=fun q hq=>by
     have:=yq hcv q hq
     exact⟨by omega,by omega⟩
    refine⟨c',_,rfl,hid (HT2.out.kept ?_ ((hk5 _ _ hit (fun _ _ e=>by cases e)).trans hit.symm)),hid hB5,hid ⟨upd (fun _=>none) y (some ⟨u1.heap.size,.slice va vn vc,kn,k.zs⟩),.inr ⟨⟨gc,gsc,mvc,nc+1,nsc+1,_,lsc,hb5,?_,hTM5,hgn,⟨fun q f hf=>?_,fun q q' f f' hf hf' hne=>?_⟩,HD2.out.mv.to (fun i hi=>⟨hi.1,by omega⟩) (by omega) fun i cs T f _ hi=>hk5 _ _ hi (fun _ _ e=>by cases e),?_,?_⟩,fun q hq=>?_,?_,fun q=>?_⟩⟩⟩
    ·exact(hB5.block g hgl).trans (HW2.out.block g hgl).symm
    ·have:ptF (upd (fun _=>none) y (some ⟨u1.heap.size,.slice va vn vc,kn,k.zs⟩))=fun q=>if q=y then some (.pointer (some ⟨u1.heap.size,0,none⟩)) else ptF (fun _=>none) q:=by
      funext q
      simp only[ptF,upd]
      by_cases e:q=y <;> simp[e]
     rw[this]
     exact hTM3.sm hgc5
    ·unfold upd at hf
     by_cases e:q=y
     ·rw[if_pos e] at hf;cases hf
      exact⟨⟨hC5 _ _ _ _ (by rw[<-HU2.out];exact heap_alloc_new _ _),hv5⟩,e ▸ hyl,⟨by show r<=u1.heap.size;omega,by show u1.heap.size<_;omega⟩,hvl⟩
     ·rw[if_neg e] at hf;cases hf
    ·unfold upd at hf hf'
     by_cases e:q=y
     ·rw[if_neg (fun e2=>hne (e.trans e2.symm))] at hf';cases hf'
     ·rw[if_neg e] at hf;cases hf
    ·have:=HD2.out.few;exact⟨by omega,by omega⟩
    ·exact⟨⟨hS.1.1,by omega⟩,⟨hS.2.1.1,by omega⟩,⟨hS.2.2.1,by omega⟩⟩
    ·unfold upd;rw[if_neg hq]
    ·simp[upd,hk]
    ·by_cases e:q=y
     ·simp[e]
     ·have:F q=none:=by
       cases e2:F q with
       | none=>rfl
       | some f=>exact absurd (HONE.out q (by rw[e2];simp)) e
      show (L q && _)=false
      rw[h3 q,this]
      rfl
end Go.Proofs.YtgliaiemkfopeaaGreatDoor.K
namespace Go.Proofs.YtgliaiemkfopeaaGreatDoor.K
open Go.RowKit Go.Extern.Stop Go.Stop Go.Extern
theorem Tryz.results66:Tryz.f66.results=#[.tmp 4]:=by kernel_rfl
theorem Tryz.results103:Tryz.f103.results=#[.tmp 6]:=by kernel_rfl
theorem Tryz.results267:Tryz.f267.results=#[.tmp 2]:=by kernel_rfl
theorem eqNil (t:TypeId) (v:Value) (w:World):(binOp .eql 55 .nilIface (.iface t v)).run Tryz.prog w=.ok (.bool false) w:=by kernel_rfl
theorem eq171 (b:Nat) (w:World):(binOp .eql 55 (.iface 171 (.pointer (some ⟨b,0,none⟩))) (.iface 44 (.int .i64 3))).run Tryz.prog w=.ok (.bool false) w:=by kernel_rfl
theorem eq44 (w:World):(binOp .eql 55 (.iface 44 (.int .i64 3)) (.iface 44 (.int .i64 3))).run Tryz.prog w=.ok (.bool true) w:=by kernel_rfl
theorem is_nil (t:TypeId) (v:Value) (w:World):Calls Tryz.prog 66 #[.nilIface,.iface t v] w fun e w'=>e=.returned (.bool false)/\w'=w:=by
 have q0:=eqNil t v
 go_enter Tryz.func66,Tryz.ntmps66
 go_wp2_with fail
 exact bodyPost_ret (results_tmp Tryz.results66 _ _ _) rfl ⟨rfl,rfl⟩
theorem methodComparable (h:Value) (w:World):(Go.method 468 198 (.agg #[h]) "Comparable").run Tryz.prog w=.ok (270,.agg #[h]) w:=by kernel_rfl
def cmpF:TypeId->Sem Value:=fun t=>do
 Rtype.noPackHeld "Comparable" t
 pure (.bool (<-typeInfo t).comparable)
theorem comparable44 (w:World):(ReflectliteType.method cmpF #[.agg #[.pointer (some ⟨10,44,none⟩)]]).run Tryz.prog w=.ok (.bool true) w:=by kernel_rfl
theorem no231 (v:Value) (xT:TypeId) (w:World):(Instr.typeAssert (.iface 171 v) xT 231 true).run Tryz.prog w=.ok (.tuple #[.nilIface,.bool false]) w:=run_typeAssert_lacksB Tryz.underlying231 (by kernel_rfl) (by kernel_rfl) v xT w
theorem is205 (v:Value) (xT:TypeId) (w:World):(Instr.typeAssert (.iface 171 v) xT 205 true).run Tryz.prog w=.ok (.tuple #[.iface 171 v,.bool true]) w:=run_typeAssert_hasB Tryz.underlying205 (by kernel_rfl) v xT w
theorem methodUnwrap (v:Value) (w:World):(Go.method 468 171 v "Unwrap").run Tryz.prog w=.ok (267,v) w:=by kernel_rfl
theorem unwrap_any (b:Nat) (k:Int) (w:World) (h:w.cell? ⟨b,1,none⟩=some (.int .i64 k)):Calls Tryz.prog 267 #[.pointer (some ⟨b,0,none⟩)] w fun e w'=>e=.returned (.iface 44 (.int .i64 k))/\w'=w:=by
 go_enter Tryz.func267,Tryz.ntmps267
 go_wp2_with fail
 exact bodyPost_ret (results_tmp Tryz.results267 _ _ _) rfl ⟨rfl,rfl⟩
set_option maxHeartbeats 1000000 in
theorem isIn_file (b:Nat) (w:World) (h:w.cell? ⟨b,1,none⟩=some (.int .i64 3)):Calls Tryz.prog 103 #[.iface 171 (.pointer (some ⟨b,0,none⟩)),.iface 44 (.int .i64 3),.bool true] w fun e w'=>e=.returned (.bool true)/\w'=w:=by
 have n1:=no231
 have q1:=eq171 b
 have q2:=eq44
 have n2:=is205
 have mU:=methodUnwrap
 have cU:=unwrap_any b 3 w h
 go_enter Tryz.func103,Tryz.ntmps103
 go_wp2_with fail
 go_loopg [0] 1 (fun q v wr=>(q=1/\v=.iface 171 (.pointer (some ⟨b,0,none⟩))/\wr=w) ∨ (q=0/\v=.iface 44 (.int .i64 3)/\wr=w))
 case atStart=>exact .inl ⟨rfl,rfl,rfl⟩
 case round =>
  rcases hrel with ⟨hq,rfl,rfl⟩ | ⟨hq,rfl,rfl⟩
  ·go_wp2_with (go_at_call 267;refine cU.mono ?_;rintro e w' ⟨rfl,rfl⟩)
   go_roundg 0
   case measure=>omega
   case rel=>exact .inr ⟨rfl,rfl,rfl⟩
  ·go_wp2_with fail
   exact bodyPost_ret (results_tmp Tryz.results103 _ _ _) rfl ⟨rfl,rfl⟩
theorem is_file (b:Nat) (w:World) (h:w.cell? ⟨b,1,none⟩=some (.int .i64 3)):Calls Tryz.prog 66 #[.iface 171 (.pointer (some ⟨b,0,none⟩)),.iface 44 (.int .i64 3)] w fun e w'=>e=.returned (.bool true)/\w'=w:=by
 have h62:=@run_callFunc_extern Tryz.prog 102 _ ReflectliteType.typeOf Tryz.func102 (by kernel_rfl) (by kernel_rfl) (by kernel_rfl) (by kernel_rfl)
 have h270:=@run_callFunc_extern Tryz.prog 270 _ (ReflectliteType.method cmpF) Tryz.func270 (by kernel_rfl) (by kernel_rfl) (by kernel_rfl) (by kernel_rfl)
 have tO:=typeOf32
 have mC:=methodComparable
 have c44:=comparable44
 have hi:=isIn_file b w h
 go_enter Tryz.func66,Tryz.ntmps66
 go_wp2_with (go_at_call 103;refine hi.mono ?_;rintro e w' ⟨rfl,rfl⟩)
 exact bodyPost_ret (results_tmp Tryz.results66 _ _ _) rfl ⟨rfl,rfl⟩
end Go.Proofs.YtgliaiemkfopeaaGreatDoor.K
namespace Go.Proofs.YtgliaiemkfopeaaGreatDoor.K
open Go.RowKit
theorem Tryz.results95:Tryz.f95.results=#[.tmp 6]:=by kernel_rfl
theorem catch_idle (p q:Addr) (w:World) :
  CallsD Tryz.prog 161 #[.pointer (some p),.pointer (some q)] .returning w fun e u' w'=>e=.returned (.tuple #[])/\u'=.returning/\w'=w:=by
 refine callsD_of_wpS Tryz.func161 rfl fun c₀ cs hu=>?_
 apply wpS_seq
 apply wpS_region
 simp[wpOpsS,go_sem,recoverD,hu,Tryz.ntmps161,Exit.thenS]
 refine wpS_cond (t:=false) (by simp[Act.eval,Array.replicate]) ?_
 refine wpS_of_wp ?_
 go_wp2
 cases c₀
 simp_all [bodyPostS,results]
set_option maxHeartbeats 1000000 in
theorem create1_any (S:Nat->Prop) (N D:Nat) (F:Fs) (x:Str) (w:World) (h:Dk S N w D F) (hx:x.length<=4000) (hF:F x=none) (hN:N<=90000) (hSl:∀ i,S i->i<w.heap.size) :
  Calls Tryz.prog 133 #[.pointer (some ⟨D,0,none⟩),sV x] w fun e w'=>e=.returned .nilIface/\∃ B,w.heap.size<=B/\Dk (Sx S w w') (N+2) w' D (upd F x (some ⟨B,.slice none 0 0,0,[]⟩))/\Al S w w':=by
 have hmf:∀ (fn:Fn) (first cap:Array Value) (w:World),(Instr.makeFunc fn first cap).run Tryz.prog w=.ok (.func fn first cap) w:=fun _ _ _ _=>rfl
 obtain⟨w1,HW1⟩:=nm_ ((w.alloc (.cells #[sV x] 9)).alloc (.cells #[.nilIface] 55))
 have hb:Below w.heap.size w w1:=by rw[<-HW1.out];exact((Below.refl _ w).alloc (Nat.le_refl _) _).alloc (by simp) _
 have hs1:w1.heap.size=w.heap.size+2:=by rw[<-HW1.out];simp
 have hcr:=create_any S N D F x w1 (h.below hb) hx hF hN
 have hc1:w1.heap[w.heap.size+1]? = some (.cells #[.nilIface] 55):=by
  have:=heap_alloc_new (w.alloc (.cells #[sV x] 9)) (.cells #[.nilIface] 55)
  rw[HW1.out] at this
  simpa using this
 have HE:Hid (∀ w2 B,w1.heap.size<=B->Dk (Sx S w1 w2) (N+2) w2 D (upd F x (some ⟨B,.slice none 0 0,0,[]⟩))->Al S w1 w2->w2.heap[w.heap.size+1]? = some (.cells #[.nilIface] 55)/\∃ B,w.heap.size<=B/\Dk (Sx S w (w2.setCell ⟨w.heap.size+1,0,none⟩ .nilIface)) (N+2) (w2.setCell ⟨w.heap.size+1,0,none⟩ .nilIface) D (upd F x (some ⟨B,.slice none 0 0,0,[]⟩))/\Al S w (w2.setCell ⟨w.heap.size+1,0,none⟩ .nilIface)):=fun w2 B k0 k1 k2=>by
  have h1:=(k2.blk (w.heap.size+1) (by omega) (fun hs=>by have:=hSl _ hs;omega)).trans hc1
  have t:Tf 55 w2 (w2.setCell ⟨w.heap.size+1,0,none⟩ .nilIface):=Tf.set (p:=⟨w.heap.size+1,0,none⟩) h1 _
  have hz:(w2.setCell ⟨w.heap.size+1,0,none⟩ .nilIface).heap.size=w2.heap.size:=by simp[World.setCell]
  obtain⟨g,gs,mv,n,ns,Ms,ls,kk⟩:=k1
  have k3:Dk _ _ _ _ _:=⟨g,gs,mv,n,ns,Ms,ls,kk.tf t (by omega) (by decide)⟩
  have:=k2.size
  exact⟨h1,B,by omega,k3.mono (fun i hi=>by rcases hi with hi | hi;exact .inl hi;exact .inr ⟨by omega,by omega⟩) (Nat.le_refl _),((Al.below hb).trans k2 (fun i h=>.inl h)).trans (Al.of_set (S:=fun i=>i=w.heap.size+1) (p:=⟨w.heap.size+1,0,none⟩) rfl _) (fun i hi=>.inr (by omega))⟩
 unfold sV at hcr HW1 ⊢
 go_enter_defers Tryz.func133,Tryz.ntmps133
 go_wp2_with (go_at_call 162;rw[HW1.out];refine hcr.mono ?_;rintro e w2 ⟨rfl,B,k0,k1,k2⟩;obtain⟨q1,q2⟩:=HE.out w2 B k0 k1 k2;have Q2:=hid q2;have q3:w2.cell? ⟨w.heap.size+1,0,none⟩=some .nilIface:=(by simp[World.cell?,q1]);have q4:w2.frozen? ⟨w.heap.size+1,0,none⟩=false:=(by simp[World.frozen?,q1]);clear q1 q2 k0 k1 k2)
 simp only[bodyPostD]
 refine leaves_cons (f:=161) (args:=#[.pointer (some ⟨w.heap.size,0,none⟩),.pointer (some ⟨w.heap.size+1,0,none⟩)]) (by simp) (by simp[go_sem]) ?_
 refine(catch_idle _ _ _).mono ?_
 rintro e u' w'' ⟨rfl,rfl,rfl⟩
 have l4:=World.cell?_setCell_same w2 _ .nilIface q3
 simp[Leaves,settle,results,go_sem,l4]
 exact Q2.out
theorem upd_upd (F:Fs) (x:Str) (a b:Option Fi):upd (upd F x a) x b=upd F x b:=by
 funext y
 simp only[upd]
 by_cases e:y=x <;> simp[e]
theorem jQ (F:Fs) (x:Str) (a:Option Fi):upd F x a x=a:=by simp[upd]
theorem uw (F:Fs) (x y:Str) (a:Option Fi) (h:y ≠ x):upd F x a y=F y:=by simp[upd,h]
theorem sl_al {S:Nat->Prop} {w w':World} {a:Option Addr} {c:Nat} {l:List Int} (h:Sl w a c l) (hn:∀ p:Addr,a=some p->¬ S p.block) (ha:Al S w w'):Sl w' a c l :=
 ⟨h.capl,fun h0=>by
  obtain⟨b,off,e1,e2,e3⟩:=h.at_ h0
  refine⟨b,off,e1,Nat.lt_of_lt_of_le e2 ha.size,fun i hi=>?_⟩
  rw[World.cell?_of_block (a:=⟨b,off+i,none⟩) (show w'.heap[b]? = w.heap[b]? from ha.blk b e2 (hn _ e1))]
  exact e3 i hi,h.nil⟩
theorem sx_sx {S:Nat->Prop} {a b c:World} (h1:a.heap.size<=b.heap.size) (h2:b.heap.size<=c.heap.size):∀ i,Sx (Sx S a b) b c i->Sx S a c i:=fun i hi=>by
 rcases hi with (hi | hi) | hi
 ·exact .inl hi
 ·exact .inr ⟨hi.1,by omega⟩
 ·exact .inr ⟨by omega,hi.2⟩
theorem Al.sx {S:Nat->Prop} {a b c:World} (h:Al S a b) (k:Al (Sx S a b) b c):Al S a c:=h.trans k fun i hi=>by rcases hi with hi | hi;exact .inl hi;exact .inr hi.1
set_option maxHeartbeats 1000000 in
theorem write_any (S:Nat->Prop) (N D:Nat) (F:Fs) (x z:Str) (ab:Option Addr) (cb:Nat) (bs:List Int) (w:World) (h:Dk S N w D F) (hx:x.length<=4000) (hF:F x=none) (hN:N<=80000) (hSl:∀ i,S i->i<w.heap.size) (hxz:x ≠ z) (hzl:z.length<=4000) (ho:∀ y,F y ≠ none->y=z) (hb:Sl w ab cb bs) (hbS:∀ p:Addr,ab=some p->¬ S p.block/\p.block<w.heap.size) (hl:bs.length<=500000000) (hz:fl F z<=500000000) :
  Calls Tryz.prog 95 #[.pointer (some ⟨D,0,none⟩),sV x,.slice ab bs.length cb] w fun e w'=>e=.returned .nilIface/\(∃ f,f.zs=bs/\Dk (Sx S w w') (N+2) w' D (upd F x (some f)))/\Al S w w':=by
 have hcr:=create1_any S N D F x w h hx hF (by omega) hSl
 obtain⟨L,HL⟩:=nm_ bs.length
 have hap:∀ B w1,w.heap.size<=w1.heap.size->Dk (Sx S w w1) (N+2) w1 D (upd F x (some ⟨B,.slice none 0 0,0,[]⟩))->Al S w w1->Calls Tryz.prog 85 #[.pointer (some ⟨D,0,none⟩),sV x,.slice ab bs.length cb] w1 fun e w2=>e=.returned .nilIface/\(∃ v',Dk (Sx S w w2) (N+2) w2 D (upd F x (some ⟨B,v',0,bs⟩)))/\Al S w w2:=fun B w1 hs h1 h2=>by
  refine(append_any (Sx S w w1) (N+2) D _ ⟨B,.slice none 0 0,0,[]⟩ x z ab cb bs w1 h1 (jQ _ _ _) hxz hzl (fun y hy=>?_) (sl_al hb (fun p hp=>(hbS p hp).1) h2) (by simpa using hl) (by unfold fl;rw[uw _ _ _ _ hxz.symm];exact hz)).mono ?_
  ·by_cases e:y=x
   ·exact .inl e
   ·rw[uw _ _ _ _ e] at hy;exact .inr (ho y hy)
  ·rintro e w2 ⟨rfl,⟨v',k1⟩,k2⟩
   rw[upd_upd] at k1
   exact⟨rfl,⟨v',(by simpa using k1.mono (sx_sx hs k2.size) (Nat.le_refl _))⟩,h2.sx k2⟩
 have hsy:∀ B v' w2,Dk (Sx S w w2) (N+2) w2 D (upd F x (some ⟨B,v',0,bs⟩))->Al S w w2->Calls Tryz.prog 70 #[.pointer (some ⟨D,0,none⟩),sV x] w2 fun e w3=>e=.returned .nilIface/\(∃ f,f.zs=bs/\Dk (Sx S w w3) (N+2) w3 D (upd F x (some f)))/\Al S w w3:=fun B v' w2 h1 h2=>by
  refine(sync_any (Sx S w w2) (N+2) D _ ⟨B,v',0,bs⟩ x w2 h1 (jQ _ _ _)).mono ?_
  rintro e w3 ⟨rfl,k1,k2⟩
  rw[upd_upd] at k1
  exact⟨rfl,⟨_,rfl,k1.mono (fun i hi=>sx_sx h2.size k2.size i (.inl hi)) (Nat.le_refl _)⟩,h2.sx k2⟩
 have hin:=is_nil 44 (.int .i64 3)
 rw[HL.out] at hap ⊢
 unfold sV at hcr hap hsy ⊢
 clear hb h
 go_enter Tryz.func95,Tryz.ntmps95
 go_wp2_with (first
  | (go_at_call 133;refine hcr.mono ?_;rintro e w1 ⟨rfl,B,k0,k1,k2⟩;have hap1:=hap B w1 k2.size k1 k2;clear k0 k1 k2 hap)
  | (go_at_call 66;refine(hin _).mono ?_;rintro e w' ⟨rfl,rfl⟩)
  | (go_at_call 85;refine hap1.mono ?_;rintro e w2 ⟨rfl,⟨v',k1⟩,k2⟩;have hsy1:=hsy _ v' w2 k1 k2;clear k1 k2 hsy)
  | (go_at_call 70;refine hsy1.mono ?_;rintro e w3 ⟨rfl,k1,k2⟩;have K1:=hid k1;have K2:=hid k2;clear k1 k2))
 exact bodyPost_ret (results_tmp Tryz.results95 _ _ _) rfl ⟨rfl,K1.out,K2.out⟩
end Go.Proofs.YtgliaiemkfopeaaGreatDoor.K
