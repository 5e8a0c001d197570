import Derived.Test.YtgliaiemkfopeaaGreatDoorMn01
import Derived.Defers
import Derived.Recover
import Derived.WalkKit
import Derived.LaidEql
import Derived.Stop.Asserts
import Derived.RowKitTokens
import Derived.Deep.AppendLies
import Derived.Deep.LoopGhost
import Derived.Deep.RegionWith
import Derived.Deep.QuietTactic
import Derived.BigQuiet
import Derived.WalkLawsBesides
import Derived.WalkSpells
import Derived.Laws.BitsAllLaws
import Derived.Laws.CopyOwn
import Derived.Laws.IdiomCopy
import Derived.Deep.RegionHeld3
import Derived.Deep.RegionLaw
import Derived.Deep.DrawnRows
import Derived.Deep.MidRow
import Derived.Laws.BytesArg
import Derived.Laws.Externs
import Derived.Test.YtgliaiemkfopeaaGreatDoorMn03
set_option linter.unusedSimpArgs false
set_option linter.unusedVariables false
set_option maxRecDepth 20000
set_option maxHeartbeats 4000000
namespace Go.Proofs.YtgliaiemkfopeaaGreatDoor
open Go.RowKit Go.Extern.Stop Go.Stop Go.Extern
theorem valueOf45 (t:Addr) (w:World):(ReflectliteValue.unpack (.iface 109 (.pointer (some t)))).run Tryz.prog w
  = .ok (.agg #[.pointer (some ⟨10,109,none⟩),.pointer (some ⟨w.heap.size,0,none⟩),.int .u64 150]) (w.alloc (.cells #[.pointer (some t)] 109)):=by kernel_rfl
theorem type45 (a:Addr) (w:World):(ReflectliteValue.methodAny (ReflectliteValue.valueError "reflectlite.Value.Type" 0) (fun t _ _ _=>ReflectliteType.toType t) #[.agg #[.pointer (some ⟨10,109,none⟩),.pointer (some a),.int .u64 150]]).run Tryz.prog w
  = .ok (.iface 198 (.agg #[.pointer (some ⟨10,109,none⟩)])) w:=by kernel_rfl
theorem methodKind (h:Value) (w:World):(Go.method 468 198 (.agg #[h]) "Kind").run Tryz.prog w=.ok (258,h) w:=by kernel_rfl
theorem kind45 (w:World):((ReflectliteType.abiMethod fun t=>(fun a:Nat=>Value.int IntKind.u8 (a:Int)) <$> Rtype.kind t) #[.pointer (some ⟨10,109,none⟩)]).run Tryz.prog w=.ok (.int .u8 22) w:=by kernel_rfl
theorem kind32 (w:World):((ReflectliteType.abiMethod fun t=>(fun a:Nat=>Value.int IntKind.u8 (a:Int)) <$> Rtype.kind t) #[.pointer (some ⟨10,44,none⟩)]).run Tryz.prog w=.ok (.int .u8 2) w:=by kernel_rfl
theorem methodElem (h:Value) (w:World):(Go.method 468 198 (.agg #[h]) "Elem").run Tryz.prog w=.ok (271,.agg #[h]) w:=by kernel_rfl
theorem methodImplements (h:Value) (w:World):(Go.method 468 198 (.agg #[h]) "Implements").run Tryz.prog w=.ok (272,.agg #[h]) w:=by kernel_rfl
theorem Yv (h:Value) (w:World):(Go.method 468 198 (.agg #[h]) "AssignableTo").run Tryz.prog w=.ok (269,.agg #[h]) w:=by kernel_rfl
theorem elem45 (w:World):(ReflectliteType.method ReflectliteType.elem #[.agg #[.pointer (some ⟨10,109,none⟩)]]).run Tryz.prog w=.ok (.iface 198 (.agg #[.pointer (some ⟨10,44,none⟩)])) w:=by kernel_rfl
theorem implements32 (w:World):(ReflectliteType.relation "Implements" ReflectliteType.implements_ #[.agg #[.pointer (some ⟨10,44,none⟩)],.iface 198 (.agg #[.pointer (some ⟨10,55,none⟩)])]).run Tryz.prog w=.ok (.bool true) w:=by kernel_rfl
theorem typeOf32 (v:Value) (w:World):(ReflectliteType.typeOf #[.iface 44 v]).run Tryz.prog w=.ok (.iface 198 (.agg #[.pointer (some ⟨10,44,none⟩)])) w:=by kernel_rfl
theorem assignable32 (w:World):(ReflectliteType.relation "AssignableTo" ReflectliteType.assignableTo #[.agg #[.pointer (some ⟨10,44,none⟩)],.iface 198 (.agg #[.pointer (some ⟨10,44,none⟩)])]).run Tryz.prog w=.ok (.bool true) w:=by kernel_rfl
theorem valueOf32 (k:Int) (w:World):(ReflectliteValue.unpack (.iface 44 (.int .i64 k))).run Tryz.prog w
  = .ok (.agg #[.pointer (some ⟨10,44,none⟩),.pointer (some ⟨w.heap.size,0,none⟩),.int .u64 130]) (w.alloc (.cells #[.int .i64 k] 44)):=by kernel_rfl
theorem elemOf45 (w:World):(Rtype.elem? 109).run Tryz.prog w=.ok (some 44) w:=by kernel_rfl
theorem mk32 (p:Addr) (w:World):(ReflectliteValue.mk 44 p ReflectliteValue.flagAddr).run Tryz.prog w=.ok (.agg #[.pointer (some ⟨10,44,none⟩),.pointer (some p),.int .u64 386]) w:=by kernel_rfl
theorem direct32 (w:World):(Rtype.directlyAssignable 44 44).run Tryz.prog w=.ok true w:=by kernel_rfl
theorem isNil_at (a:Addr) (W:World):(ReflectliteValue.method (ReflectliteValue.valueError "reflectlite.Value.IsNil" 0) ReflectliteValue.isNil #[.agg #[.pointer (some ⟨10,109,none⟩),.pointer (some a),.int .u64 150]]).run Tryz.prog W=(ReflectliteValue.isNil 109 a 150 22).run Tryz.prog W:=by kernel_rfl
theorem elem_at (a:Addr) (W:World):(ReflectliteValue.method (ReflectliteValue.valueError "reflectlite.Value.Elem" 0) ReflectliteValue.elem #[.agg #[.pointer (some ⟨10,109,none⟩),.pointer (some a),.int .u64 150]]).run Tryz.prog W=(ReflectliteValue.elem 109 a 150 22).run Tryz.prog W:=by kernel_rfl
theorem set_at (ta b:Addr) (W:World):(ReflectliteValue.set #[.agg #[.pointer (some ⟨10,44,none⟩),.pointer (some ta),.int .u64 386],.agg #[.pointer (some ⟨10,44,none⟩),.pointer (some b),.int .u64 130]]).run Tryz.prog W=(loadVar 44 b >>= fun val=>storeVar 44 ta val >>= fun _=>pure (.tuple #[])).run Tryz.prog W:=by kernel_rfl
theorem isNil45 (a p:Addr) (W:World) (ha:W.cell? a=some (.pointer (some p))) :
  (ReflectliteValue.method (ReflectliteValue.valueError "reflectlite.Value.IsNil" 0) ReflectliteValue.isNil #[.agg #[.pointer (some ⟨10,109,none⟩),.pointer (some a),.int .u64 150]]).run Tryz.prog W=.ok (.bool false) W:=by
 rw[isNil_at]
 simp[ReflectliteValue.isNil,loadVar,isAgg,underlying,Tryz.underlying109,ha,Result.andThen]
theorem elemV45 (a p:Addr) (W:World) (ha:W.cell? a=some (.pointer (some p))) :
  (ReflectliteValue.method (ReflectliteValue.valueError "reflectlite.Value.Elem" 0) ReflectliteValue.elem #[.agg #[.pointer (some ⟨10,109,none⟩),.pointer (some a),.int .u64 150]]).run Tryz.prog W
   = .ok (.agg #[.pointer (some ⟨10,44,none⟩),.pointer (some p),.int .u64 386]) W:=by
 rw[elem_at]
 simp[ReflectliteValue.elem,loadVar,isAgg,underlying,Tryz.underlying109,ha,Result.andThen,elemOf45,mk32]
theorem set32 (ta b:Addr) (k:Int) (old:Value) (W:World) (hb:W.cell? b=some (.int .i64 k)) (ht:W.cell? ta=some old) (hf:W.frozen? ta=false) :
  (ReflectliteValue.set #[.agg #[.pointer (some ⟨10,44,none⟩),.pointer (some ta),.int .u64 386],.agg #[.pointer (some ⟨10,44,none⟩),.pointer (some b),.int .u64 130]]).run Tryz.prog W
   = .ok (.tuple #[]) (W.setCell ta (.int .i64 k)):=by
 rw[set_at]
 simp[loadVar,isAgg,underlying,Tryz.underlying44,hb,Result.andThen,direct32,storeVar,Value.cells,storeCells,Addr.add]
 rw[run_store Tryz.prog W ta _ _ (by rfl)]
 simp[ht,hf]
set_option maxRecDepth 100000 in
theorem as_hit (k:Int) (t:Addr) (old:Value) (w:World) (hg:w.cell? ⟨0,0,none⟩=some (.iface 198 (.agg #[.pointer (some ⟨10,55,none⟩)]))) (ht0:w.cell? t=some old) (hf0:w.frozen? t=false) :
  Calls Tryz.prog 40 #[.iface 44 (.int .i64 k),.iface 109 (.pointer (some t))] w fun ev w'=>ev=.returned (.bool true)/\w'=((((w.alloc (.cells #[.pointer (some t)] 109)).alloc (.cells #[.pointer (some ⟨10,109,none⟩),.pointer (some ⟨w.heap.size,0,none⟩),.int .u64 150] 160)).alloc (.cells #[.pointer (some ⟨10,109,none⟩),.pointer (some ⟨w.heap.size,0,none⟩),.int .u64 150] 160)).alloc (.cells #[.int .i64 k] 44)).setCell t (.int .i64 k):=by
 have h33:=@run_callFunc_extern Tryz.prog 72 _ (fun args=>ReflectliteValue.unpack (args.getD 0 (.tuple #[]))) Tryz.func72 (by kernel_rfl) (by kernel_rfl) (by kernel_rfl) (by kernel_rfl)
 have h34:=@run_callFunc_extern Tryz.prog 73 _ (ReflectliteValue.methodAny (ReflectliteValue.valueError "reflectlite.Value.Type" 0) (fun t _ _ _=>ReflectliteType.toType t)) Tryz.func73 (by kernel_rfl) (by kernel_rfl) (by kernel_rfl) (by kernel_rfl)
 have h35:=@run_callFunc_extern Tryz.prog 74 _ (ReflectliteValue.method (ReflectliteValue.valueError "reflectlite.Value.IsNil" 0) ReflectliteValue.isNil) Tryz.func74 (by kernel_rfl) (by kernel_rfl) (by kernel_rfl) (by kernel_rfl)
 have h97:=@run_callFunc_extern Tryz.prog 258 _ (ReflectliteType.abiMethod fun t=>do pure (.int .u8 (<-Rtype.kind t))) Tryz.func258 (by kernel_rfl) (by kernel_rfl) (by kernel_rfl) (by kernel_rfl)
 have h107:=@run_callFunc_extern Tryz.prog 271 _ (ReflectliteType.method ReflectliteType.elem) Tryz.func271 (by kernel_rfl) (by kernel_rfl) (by kernel_rfl) (by kernel_rfl)
 have h108:=@run_callFunc_extern Tryz.prog 272 _ (ReflectliteType.relation "Implements" ReflectliteType.implements_) Tryz.func272 (by kernel_rfl) (by kernel_rfl) (by kernel_rfl) (by kernel_rfl)
 have h62:=@run_callFunc_extern Tryz.prog 102 _ ReflectliteType.typeOf Tryz.func102 (by kernel_rfl) (by kernel_rfl) (by kernel_rfl) (by kernel_rfl)
 have h105:=@run_callFunc_extern Tryz.prog 269 _ (ReflectliteType.relation "AssignableTo" ReflectliteType.assignableTo) Tryz.func269 (by kernel_rfl) (by kernel_rfl) (by kernel_rfl) (by kernel_rfl)
 have h63:=@run_callFunc_extern Tryz.prog 107 _ (ReflectliteValue.method (ReflectliteValue.valueError "reflectlite.Value.Elem" 0) ReflectliteValue.elem) Tryz.func107 (by kernel_rfl) (by kernel_rfl) (by kernel_rfl) (by kernel_rfl)
 have h64:=@run_callFunc_extern Tryz.prog 108 _ ReflectliteValue.set Tryz.func108 (by kernel_rfl) (by kernel_rfl) (by kernel_rfl) (by kernel_rfl)
 have tO:=typeOf32
 have mA:=Yv
 have a32:=assignable32
 have v32:=valueOf32
 have f6:=valueOf45
 have f7:=type45
 have mK:=methodKind
 have mE:=methodElem
 have mI:=methodImplements
 have k45:=kind45
 have k32:=kind32
 have e45:=elem45
 have i32:=implements32
 have n8:=isNil45 ⟨w.heap.size,0,none⟩ t ((w.alloc (.cells #[.pointer (some t)] 109)).alloc (.cells #[.pointer (some ⟨10,109,none⟩),.pointer (some ⟨w.heap.size,0,none⟩),.int .u64 150] 160)) (by simp)
 have hlt:0<w.heap.size:=by
  rcases Nat.lt_or_ge 0 w.heap.size with h | h
  ·exact h
  ·simp[World.cell?,Array.getElem?_eq_none h] at hg
 have hg2:((w.alloc (.cells #[.pointer (some t)] 109)).alloc (.cells #[.pointer (some ⟨10,109,none⟩),.pointer (some ⟨w.heap.size,0,none⟩),.int .u64 150] 160)).cell? ⟨0,0,none⟩=some (.iface 198 (.agg #[.pointer (some ⟨10,55,none⟩)])):=by
  rw[World.cell?_alloc_lt _ _ ⟨0,0,none⟩ (by simp),World.cell?_alloc_lt _ _ ⟨0,0,none⟩ hlt];exact hg
 have htl:t.block<w.heap.size:=by
  rcases Nat.lt_or_ge t.block w.heap.size with h | h
  ·exact h
  ·simp[World.cell?,Array.getElem?_eq_none h] at ht0
 have el:=elemV45 ⟨w.heap.size,0,none⟩ t (((w.alloc (.cells #[.pointer (some t)] 109)).alloc (.cells #[.pointer (some ⟨10,109,none⟩),.pointer (some ⟨w.heap.size,0,none⟩),.int .u64 150] 160)).alloc (.cells #[.pointer (some ⟨10,109,none⟩),.pointer (some ⟨w.heap.size,0,none⟩),.int .u64 150] 160)) (by rw[World.cell?_alloc_lt _ _ ⟨w.heap.size,0,none⟩ (by simp;omega)];simp)
 have st:=set32 t ⟨w.heap.size+1+1+1,0,none⟩ k old ((((w.alloc (.cells #[.pointer (some t)] 109)).alloc (.cells #[.pointer (some ⟨10,109,none⟩),.pointer (some ⟨w.heap.size,0,none⟩),.int .u64 150] 160)).alloc (.cells #[.pointer (some ⟨10,109,none⟩),.pointer (some ⟨w.heap.size,0,none⟩),.int .u64 150] 160)).alloc (.cells #[.int .i64 k] 44))
  (by rw[World.cell?_alloc_at _ _ _ _ (by simp)];rfl)
  (by rw[World.cell?_alloc_lt _ _ t (by simp;omega),World.cell?_alloc_lt _ _ t (by simp;omega),World.cell?_alloc_lt _ _ t (by simp;omega),World.cell?_alloc_lt _ _ t htl];exact ht0)
  (by rw[World.frozen?_alloc_old _ _ t (by simp;omega),World.frozen?_alloc_old _ _ t (by simp;omega),World.frozen?_alloc_old _ _ t (by simp;omega),World.frozen?_alloc_old _ _ t (Nat.ne_of_lt htl)];exact hf0)
 go_enter Tryz.func40,Tryz.ntmps40
 go_wp2
 refine wp_loop_rounds 1 ?_
 rw[rounds_succ]
 go_wp2
 go_ret
 exact⟨rfl,rfl⟩
theorem YY (w:World):Calls Tryz.prog 13 #[.nilIface] w fun e w'=>e=.returned (.int .i64 0)/\Below w.heap.size w w':=by
 have HB:Hid (Below w.heap.size w (w.alloc (.cells #[.int .i64 0] 44))):=(Below.refl _ w).alloc (Nat.le_refl _) _
 go_enter Tryz.func13,Tryz.ntmps13
 go_wp2
 go_ret
 exact⟨rfl,HB.out⟩
theorem tell_errno (k:Int) (w:World) (hg:w.cell? ⟨0,0,none⟩=some (.iface 198 (.agg #[.pointer (some ⟨10,55,none⟩)]))) :
  Calls Tryz.prog 13 #[.iface 44 (.int .i64 k)] w fun e w'=>e=.returned (.int .i64 k)/\Below w.heap.size w w':=by
 have hlt:0<w.heap.size:=by
  rcases Nat.lt_or_ge 0 w.heap.size with h | h
  ·exact h
  ·simp[World.cell?,Array.getElem?_eq_none h] at hg
 have hg2:(w.alloc (.cells #[.int .i64 0] 44)).cell? ⟨0,0,none⟩=some (.iface 198 (.agg #[.pointer (some ⟨10,55,none⟩)])):=by
  rw[World.cell?_alloc_lt _ _ ⟨0,0,none⟩ hlt];exact hg
 go_enter Tryz.func13,Tryz.ntmps13
 go_wp2_with (go_at_call 40;refine(as_hit k ⟨w.heap.size,0,none⟩ (.int .i64 0) _ hg2 (by simp) (by simp[go_sem])).mono ?_;rintro e w' ⟨rfl,rfl⟩)
 go_ret
 exact⟨rfl,(((((Below.refl _ w).alloc (Nat.le_refl _) _).alloc (by simp) _).alloc (by simp;omega) _).alloc (by simp;omega) _).alloc (by simp;omega) _⟩
end Go.Proofs.YtgliaiemkfopeaaGreatDoor
namespace Go.Proofs.YtgliaiemkfopeaaGreatDoor.Hx
open Go.RowKit
theorem Tryz.info5:(Tryz.prog.info? 5).map (fun i=>(i.zero,i.size,i.bytes))=some (some (.int .u8 0),1,1):=by kernel_rfl
theorem Tryz.info89:(Tryz.prog.info? 89).map (·.size)=some 20:=by kernel_rfl
theorem qu {o:Option TypeInfo} {z:Value} {a b:Nat} (h:o.map (fun i=>(i.zero,i.size,i.bytes))=some (some z,a,b)):∃ i,o=some i/\i.zero=some z/\i.size=a/\i.bytes=b:=by
 cases o with
 | none=>simp at h
 | some i=>simp at h;exact⟨i,rfl,h.1,h.2.1,h.2.2⟩
def row (zs:List Int):List Value:=zs.map (Value.int .u8)
theorem zw (zs:List Int):(row zs).length=zs.length:=by simp[row]
theorem uK (zs:List Int) (i:Nat) (h:i<zs.length):(row zs)[i]? = some (.int .u8 (zs.getD i 0)):=by simp[row,h]
theorem yQ (zs:List Int):∀ v ∈ row zs,v.oneCell'=true:=by
 intro v hv;simp only[row,List.mem_map] at hv;obtain⟨c,_,rfl⟩:=hv;rfl
theorem jk (zs:List Int) (n:Nat) (c:Int):(row zs).toArray.setIfInBounds n (.int .u8 c)=(row (zs.set n c)).toArray:=by
 simp[row,List.map_set]
theorem xy {w:World} {g:Nat} {zs:List Int} {t:TypeId} {fr:Nat × Nat} (h:w.heap[g]? = some (.cells (row zs).toArray t fr)) (i:Nat) (hi:i<zs.length):w.cell? ⟨g,i,none⟩=some (.int .u8 (zs.getD i 0)):=by
 rw[cell_of_row w g i _ t fr h];simpa using uK zs i hi
theorem zy {w:World} {g:Nat} {cs:List Value} {t:TypeId} {fr:Nat × Nat} (h:w.heap[g]? = some (.cells cs.toArray t fr)):w.rangeAt g 0 cs:=fun j v hv=>by
 rw[Nat.zero_add,cell_of_row w g j _ t fr h];simpa using hv
theorem yJ {w:World} {g n:Nat} {zs:List Int} {t:TypeId} (h:w.heap[g]? = some (.cells (row zs).toArray t (0,0))) (hn:zs.length=n):w.there g 0 n:=fun j hj=>by
 rw[Nat.zero_add]
 exact⟨by rw[xy h j (by omega)];rfl,frozen_of_row w g j _ t h⟩
def dig (n:Int):Int:=if n<10 then 48+n else 87+n
def hexOf (zs:List Int):List Int:=zs.flatMap fun x=>[dig (x / 16),dig (x % 16)]
theorem hexOf_snoc (l:List Int) (x:Int):hexOf (l++[x])=hexOf l++[dig (x / 16),dig (x % 16)]:=by simp[hexOf]
theorem hexOf_len (l:List Int):(hexOf l).length=2*l.length:=by
 induction l with
 | nil=>rfl
 | cons a l ih=>simp[hexOf] at ih ⊢;omega
theorem take_snoc (zs:List Int) (k:Nat) (h:k<zs.length):zs.take (k+1)=zs.take k++[zs.getD k 0]:=by
 rw[List.take_succ_eq_append_getElem h];simp[h]
theorem QW {P:Program} (t e:TypeId) (n:Nat) (cs:Array Value) (k:IntKind) (i:Nat) (v:Value) (w:World) (h:P.underlying t=some (.array n e)) (he:(P.info? e).map (·.size)=some 1) (d:TypeDesc) (hu:P.underlying e=some d) (hd:d.isRow=false) (hi:i<n) (hv:cs[i]? = some v) :
  (Instr.index t (.agg cs) (.int k i)).run P w=.ok v w:=by
 cases hq:P.info? e with
 | none=>simp[hq] at he
 | some inf =>
  have hs:inf.size=1:=by simpa [hq] using he
  have hagg:(isAgg e).run P w=.ok false w:=by
   unfold isAgg
   rw[Sem.run_bind,run_underlying hu w]
   cases d <;> simp_all
  simp[Instr.index,asIntOf,run_underlying h,hi,part,sizeOf,typeInfo,hq,hs,hagg,hv]
theorem Tryz.size5:(Tryz.prog.info? 5).map (·.size)=some 1:=by kernel_rfl
theorem index_digs (v:Int) (w:World) (h0:0<=v) (h1:v<16):(Instr.index 9 (.string { data:=#[48,49,50,51,52,53,54,55,56,57,97,98,99,100,101,102] }) (.int .u8 v)).run Tryz.prog w=.ok (.int .u8 (dig v)) w:=by
 obtain⟨n,rfl⟩:=Int.eq_ofNat_of_zero_le h0
 have hn:n<16:=by omega
 match n,hn with
 | 0,_=>show _=_;kernel_rfl
 | 1,_=>show _=_;kernel_rfl
 | 2,_=>show _=_;kernel_rfl
 | 3,_=>show _=_;kernel_rfl
 | 4,_=>show _=_;kernel_rfl
 | 5,_=>show _=_;kernel_rfl
 | 6,_=>show _=_;kernel_rfl
 | 7,_=>show _=_;kernel_rfl
 | 8,_=>show _=_;kernel_rfl
 | 9,_=>show _=_;kernel_rfl
 | 10,_=>show _=_;kernel_rfl
 | 11,_=>show _=_;kernel_rfl
 | 12,_=>show _=_;kernel_rfl
 | 13,_=>show _=_;kernel_rfl
 | 14,_=>show _=_;kernel_rfl
 | 15,_=>show _=_;kernel_rfl
theorem and15 (x:Int) (h0:0<=x) (h1:x<256):bits .and .u8 x 15=x % 16:=by
 obtain⟨n,rfl⟩:=Int.eq_ofNat_of_zero_le h0
 have:∀ n:Nat,n<256->bits .and .u8 (n:Int) 15=(n:Int) % 16:=by decide +kernel
 exact this n (by omega)
theorem ZV (w:World) (o:Obj) (row:Option Nat):w.grownBy (w.alloc o).drew row:=let h:=World.grownBy_alloc w o row;⟨h.os,h.tape,h.output,h.size,h.block⟩
theorem yq {w:World} {B:Nat} {e:TypeId} {s:Nat} {v:Value} {n:Nat} {xs:List Value} (h:w.ownsRow B e s v n xs) (k:Nat) (hk:v.ownBlock=some k):B<=k/\k<w.heap.size:=h.lt k hk
theorem Zx {B:Nat} {w0 w wx w3:World} {r:Option Nat} (h:Below B w0 w) (hB:B<=w0.heap.size) (hx:w.grownBy wx none) (hg:wx.grownBy w3 r) (hr:∀ k,r=some k->B<=k):Below B w0 w3 :=
 (h.grown hx (Nat.le_trans hB h.size) (fun k h=>by cases h)).grown hg (Nat.le_trans (Nat.le_trans hB h.size) hx.size) hr
set_option maxHeartbeats 1000000 in
theorem hex_prog (zs:List Int) (w:World) (hl:zs.length=20) (hz:∀ n ∈ zs,0<=n/\n<256) :
  Calls Tryz.prog 124 #[.agg (row zs).toArray] w fun e w'=>e=.returned (.string (strOfNums (hexOf zs)))/\Below w.heap.size w w':=by
 obtain⟨i5,hi,hz0,hz1,hz2⟩:=qu Tryz.info5
 obtain⟨arr,HA⟩:=nn_ (row zs)
 rw[<-HA.out]
 have hsz:arr.toArray.size=20:=by rw[HA.out,List.size_toArray,zw];exact hl
 have HB0:Hid (Below w.heap.size w (w.alloc (.cells arr.toArray 89))):=(Below.refl _ w).alloc (Nat.le_refl _) _
 have HC0:Hid ((w.alloc (.cells arr.toArray 89)).rangeAt w.heap.size 0 arr):=zy (heap_alloc_new w _)
 go_enter Tryz.func124,Tryz.ntmps124
 go_wp2_with (at_make;refine wpList_make_own _ rfl _ _ 60 rfl w.heap.size 5 i5 (.int .u8 0) 1 Tryz.underlying60 hi hz0 hz1 _ _ _ 40 rfl rfl ?c1 ?c2 ?c3 ?c4 ?_)
 case c1=>rfl
 case c2=>rw[hz2];omega
 case c3=>unfold maxLen;omega
 case c4=>simp
 ·intro w1 hown hgrow
  have HC1:w1.rangeAt w.heap.size 0 arr:=fun j v hj=>(World.cell?_of_block (a:=⟨w.heap.size,0+j,none⟩) (hgrow.block _ (by simp) (by simp))).trans (HC0.out j v hj)
  have HB1:Hid (Below w.heap.size w w1):=HB0.out.grown hgrow (by simp) (fun k h=>by cases h)
  clear HB0 hgrow HC0
  have hi23:(Tryz.prog.info? 89).map (·.size)=some arr.length:=by rw[Tryz.info89,<-hsz];simp
  go_wp2_with (refine wpList_load_mid rfl 89 _ rfl w.heap.size 0 rfl arr _ HC1 Tryz.underlying89 rfl hi23 ?_)
  clear HC1
  go_loopg [3,8] 20 (fun k s i wr=>∃ j g cp:Nat,j<=20/\k=20-j/\i=.int .i64 j/\s=.slice (some ⟨g,0,none⟩) (2*j) cp/\wr.ownsRow w.heap.size 5 1 (.slice (some ⟨g,0,none⟩) (2*j) cp) (2*j) ((hexOf (zs.take j)).map (Value.int .u8))/\Hid (Below w.heap.size w wr))
  case atStart=>exact⟨0,_,_,by omega,rfl,rfl,rfl,by simpa [hexOf] using hown,HB1⟩
  case round =>
   clear hown HB1
   obtain⟨j,g,cp,hj,hk,rfl,rfl,hown,HB⟩:=hrel
   by_cases hlt:j<20
   ·obtain⟨x,HX⟩:=nn_ (zs.getD j 0)
    have hg:arr.toArray[j]? = some (.int .u8 x):=by rw[HA.out,HX.out];simpa using uK zs j (by omega)
    have hx:=hz x (by rw[HX.out,List.getD_eq_getElem?_getD,List.getElem?_eq_getElem (by omega)];exact List.getElem_mem _)
    have hix:∀ w1:World,(Instr.index 89 (.agg arr.toArray) (.int .i64 j)).run Tryz.prog w1=.ok (.int .u8 x) w1:=fun w1=>QW 89 5 20 _ _ j _ w1 Tryz.underlying89 Tryz.size5 _ Tryz.underlying5 rfl hlt hg
    obtain⟨p,HP⟩:=nn_ (x / 16)
    obtain⟨q,HQ⟩:=nn_ (x % 16)
    have hp:x / 16=p:=HP.out.symm
    have hq:bits .and .u8 x 15=q:=by rw[HQ.out];exact and15 x hx.1 hx.2
    have hdp:∀ w1:World,(Instr.index 9 (.string { data:=#[48,49,50,51,52,53,54,55,56,57,97,98,99,100,101,102] }) (.int .u8 p)).run Tryz.prog w1=.ok (.int .u8 (dig p)) w1:=fun w1=>index_digs p w1 (by omega) (by omega)
    have hdq:∀ w1:World,(Instr.index 9 (.string { data:=#[48,49,50,51,52,53,54,55,56,57,97,98,99,100,101,102] }) (.int .u8 q)).run Tryz.prog w1=.ok (.int .u8 (dig q)) w1:=fun w1=>index_digs q w1 (by rw[HQ.out];omega) (by rw[HQ.out];omega)
    obtain⟨dp,HDP⟩:=nn_ (dig p)
    obtain⟨dq,HDQ⟩:=nn_ (dig q)
    rw[<-HDP.out] at hdp
    rw[<-HDQ.out] at hdq
    go_wp2
    go_region_law ((refine step_append_lies _ (by rfl) _ _ _ (by rfl) w.heap.size 5 i5 (.int .u8 0) 1 1 Tryz.underlying60 hi hz0 hz1 hz2 rfl (by omega) (.slice (some ⟨g,0,none⟩) (2*j) cp) (2*j) ((hexOf (zs.take j)).map (Value.int .u8)) (by rfl) (by exact hown.alloc _) ⟨wr.heap.size,0,none⟩ 2 2 [.int .u8 dp,.int .u8 dq] (by rfl) (by rfl) (by intro j u hj;match j,hj with | 0,hj=>simp at hj;subst hj;simp[Addr.add] | 1,hj=>simp at hj;subst hj;simp[Addr.add]) (by intro u hu;simp at hu;rcases hu with rfl | rfl <;> rfl) (by omega) (by unfold maxLen;omega) (by omega) (by have:=HB.out.size;simp;omega) (wr.heap.size+1) (by simp) ?_;intro g2 cp2 w3 hown1 hgrow hat hlt))
    all_goals
     have HB2:Hid (Below w.heap.size w w3):=Zx HB.out (Nat.le_refl _) (ZV wr _ none) hgrow (fun k hk=>(yq hown k hk).1)
     have HO:Hid (w3.ownsRow w.heap.size 5 1 (.slice (some ⟨g2,0,none⟩) (2*(j+1)) cp2) (2*(j+1)) ((hexOf (zs.take (j+1))).map (Value.int .u8))):=by
      show World.ownsRow _ _ _ _ _ _ _
      rw[take_snoc zs j (by omega),hexOf_snoc,List.map_append,<-HX.out,<-HP.out,<-HQ.out,List.map_cons,List.map_cons,List.map_nil,<-HDP.out,<-HDQ.out]
      exact hown1
     clear hown1 hgrow hat hown
     go_wp2
     go_roundg (20-(j+1))
     case measure=>omega
     case rel=>exact⟨j+1,g2,cp2,by omega,rfl,by go_num,rfl,HO.out,HB2⟩
   ·obtain rfl:j=20:=by omega
    have hcv:∀ dst,Tryz.prog.underlying dst=some .string->(convert 60 dst (.slice (some ⟨g,0,none⟩) 40 cp)).run Tryz.prog wr=.ok (.string (strOfNums (hexOf zs))) wr :=
     run_convert_bytes_arg wr 60 5 Tryz.underlying60 Tryz.underlying5 g 0 40 cp (hexOf zs) (by rw[hexOf_len];omega) fun i hi=>by
      rw[Nat.zero_add,hown.cellAt i (by omega),List.take_of_length_le (by omega),List.getElem?_map,List.getElem?_eq_getElem (by rw[hexOf_len];omega)]
      simp[show i<(hexOf zs).length by rw[hexOf_len];omega]
    have hcv9:=hcv 9 Tryz.underlying9
    clear hcv hown
    go_wp2
    go_ret
    exact⟨rfl,HB.out⟩
theorem wrap_u8 (n:Int) (h0:0<=n) (h1:n<256):IntKind.u8.wrap n=n:=by
 obtain⟨m,rfl⟩:=Int.eq_ofNat_of_zero_le h0
 have:∀ m:Nat,m<256->IntKind.u8.wrap (m:Int)=m:=by decide +kernel
 exact this m (by omega)
end Go.Proofs.YtgliaiemkfopeaaGreatDoor.Hx
namespace Go.Proofs.YtgliaiemkfopeaaGreatDoor
open Go.RowKit
def Tab (w:World):Prop:=Lib.TabIs Tryz.prog w "internal/strconv.uint64pow10" .u64 Lib.pow10Tab
theorem pow_at:Tryz.prog.globalNamed "internal/strconv.uint64pow10" = some 3:=by kernel_rfl
theorem Tab.below {w w':World} (h:Tab w) (hb:Below w.heap.size w w'):Tab w':=by
 have hg:=pow_at
 unfold Tab Lib.TabIs World.var? at h ⊢
 rw[hg] at h ⊢
 simp only[Option.bind_some] at h ⊢
 have hlt:3<w.heap.size:=by
  rcases Nat.lt_or_ge 3 w.heap.size with h' | h'
  ·exact h'
  ·rw[Array.getElem?_eq_none h'] at h;cases h
 rw[hb.block 3 hlt]
 exact h
theorem dig_len:∀ (n m:Nat),m<10 ^ (n+1)->(Lib.decDigits m).length<=n+1
 | 0,m,h=>by rw[Lib.decDigits,dif_pos (by simpa using h)];simp
 | n+1,m,h=>by
  rw[Lib.decDigits]
  split
  ·simp
  ·have:=dig_len n (m / 10) (by rw[Nat.pow_succ] at h;omega)
   simp
   omega
theorem yw (x y:List UInt8):(⟨x.toArray⟩:ByteArray) ++ ⟨y.toArray⟩=⟨(x++y).toArray⟩:=by
 rw[ByteArray.mk_append_mk]
theorem kindAt (i:Nat) (hi:i<4):∃ f:FuncId,(∀ w,(Instr.index 319 (.agg kQ) (.int .i64 i)).run Tryz.prog w=.ok (.agg #[.func (.func f) #[] #[],.int .u32 (ki (20*i))]) w)/\
  (∀ (j:Nat) (b c d:Int) (w:World),j<20->U b->U c->U d->Calls Tryz.prog f #[.int .u32 b,.int .u32 c,.int .u32 d] w fun e w'=>e=.returned (.int .u32 (fi (20*i+j) b c d))/\w=w')/\(f=233 ∨ f=234 ∨ f=235):=by
 match i,hi with
 | 0,_=>exact⟨233,kind0,fun j b c d w hj h1 h2 h3=>by rw[fi,if_pos (by omega)];exact choice_any b c d w h1 h2 h3,.inl rfl⟩
 | 1,_=>exact⟨234,kind1,fun j b c d w hj h1 h2 h3=>by rw[fi,if_neg (by omega),if_pos (by omega)];exact parity_any b c d w h1 h2 h3,.inr (.inl rfl)⟩
 | 2,_=>exact⟨235,kind2,fun j b c d w hj h1 h2 h3=>by rw[fi,if_neg (by omega),if_neg (by omega),if_pos (by omega)];exact majority_any b c d w h1 h2 h3,.inr (.inr rfl)⟩
 | 3,_=>exact⟨234,kind3,fun j b c d w hj h1 h2 h3=>by rw[fi,if_neg (by omega),if_neg (by omega),if_neg (by omega)];exact parity_any b c d w h1 h2 h3,.inr (.inl rfl)⟩
theorem zv (B:Nat) (w:World) (n:Nat):Below B w (w.drewN n):=⟨rfl,rfl,rfl,Nat.le_refl _,fun _ _=>rfl⟩
theorem same {P:Program} {f:FuncId} {args:Array Value} {w:World} {v:Value} (h:Calls P f args w fun e w'=>e=.returned v/\w=w'):Calls P f args w fun e w'=>e=.returned v/\w'=w:=h.mono fun _ _ h=>⟨h.1,h.2.symm⟩
set_option maxHeartbeats 2000000 in
theorem with_any (s:S5) (zs:List Int) (w:World) (hs:s.ok) (hl:zs.length=64) (hz:IsB zs) :
  Calls Tryz.prog 189 #[.agg (row .u32 s.l).toArray,.agg (row .u8 zs).toArray] w fun e w'=>e=.returned (.agg (row .u32 (comp s zs).l).toArray)/\Below w.heap.size w w':=by
 have hi41:(Tryz.prog.info? 294).map (·.size)=some (row .u8 zs).length:=by rw[zw,hl];exact Tryz.size294
 obtain⟨arr,HA⟩:=nn_ (row .u8 zs)
 rw[<-HA.out]
 rw[<-HA.out] at hi41
 have hasz:arr.toArray.size=64:=by rw[HA.out,vw];exact hl
 obtain⟨kv,HK⟩:=nn_ kQ
 obtain⟨W,HW⟩:=nn_ (Yk zs)
 have hWl:W.length=80:=by rw[HW.out];exact spread_len zs
 have hWw:IsW W:=by rw[HW.out];exact spread_isW zs hz
 obtain⟨a0,b0,c0,d0,e0⟩:=s
 obtain⟨ha0,hb0,hc0,hd0,he0⟩:=hs
 have HS:Hid (S5.ok ⟨a0,b0,c0,d0,e0⟩):=⟨ha0,hb0,hc0,hd0,he0⟩
 simp only[S5.l,row,List.map_cons,List.map_nil]
 have H3:Hid (_/\_):=heap_alloc3 w (.cells #[.int .u32 a0,.int .u32 b0,.int .u32 c0,.int .u32 d0,.int .u32 e0] 293) (.cells arr.toArray 294) (.cells #[.int .u32 0,.int .u32 0,.int .u32 0,.int .u32 0,.int .u32 0] 293)
 have HB0:Hid (Below w.heap.size w (((w.alloc (.cells #[.int .u32 a0,.int .u32 b0,.int .u32 c0,.int .u32 d0,.int .u32 e0] 293)).alloc (.cells arr.toArray 294)).alloc (.cells #[.int .u32 0,.int .u32 0,.int .u32 0,.int .u32 0,.int .u32 0] 293))):=(((Below.refl _ w).alloc (Nat.le_refl _) _).alloc (by simp) _).alloc (by simp;omega) _
 obtain⟨zr,HZ⟩:=nn_ ((row .u32 z80).toArray)
 have hzv:=zero47
 rw[<-HZ.out] at hzv
 go_enter Tryz.func189,Tryz.ntmps189
 go_wp2_with (refine wpList_load_mid rfl 294 _ rfl (w.heap.size+1) 0 rfl arr _ (zy H3.out.1.2) Tryz.underlying294 rfl hi41 ?_)
 rw[HA.out]
 refine(spread_any zs _ hl hz).mono ?_
 rintro e w1 ⟨rfl,hb⟩
 rw[<-HA.out,<-HW.out]
 rw[<-HA.out] at hb
 have hb':Below (w.heap.size+1+1+1) (((w.alloc (.cells #[.int .u32 a0,.int .u32 b0,.int .u32 c0,.int .u32 d0,.int .u32 e0] 293)).alloc (.cells arr.toArray 294)).alloc (.cells #[.int .u32 0,.int .u32 0,.int .u32 0,.int .u32 0,.int .u32 0] 293)) w1:=by simpa using hb
 have hz1:w.heap.size+1+1+1<=w1.heap.size:=by simpa using hb'.size
 have F0:Hid (w1.heap[w.heap.size]? = some (.cells #[.int .u32 a0,.int .u32 b0,.int .u32 c0,.int .u32 d0,.int .u32 e0] 293 (0,0))):=(hb'.block _ (by omega)).trans H3.out.1.1
 have F2:Hid (w1.heap[w.heap.size+1+1]? = some (.cells #[.int .u32 0,.int .u32 0,.int .u32 0,.int .u32 0,.int .u32 0] 293 (0,0))):=(hb'.block _ (by omega)).trans H3.out.2
 have HB1:Hid (Below w.heap.size w w1):=HB0.out.trans (hb'.mono (by omega))
 clear hb hb' H3 HB0
 have HT:Hid ((w1.alloc (.cells zr 314)).there w1.heap.size 0 (row .u32 W).toArray.size):=hid (by rw[vw,hWl,HZ.out];exact yJ (heap_alloc_new w1 _) (by simp[z80]))
 have T2:Hid ((Tryz.prog.info? 314).map (·.size)=some (row .u32 W).toArray.size):=hid (by rw[vw,hWl];exact Tryz.size314)
 have T3:Hid ((row .u32 W).toArray.all (·.oneCell')=true):=all_oneCell_toArray (yQ _ _)
 obtain⟨w2,HW2⟩:=nn_ ((w1.alloc (.cells zr 314)).setCells w1.heap.size 0 (row .u32 W).toArray.toList)
 have HS2:Hid (w2.rangeAt w1.heap.size 0 (row .u32 W)):=hid (by rw[HW2.out];exact World.rangeAt_setCells_same _ w1.heap.size 0 _ (by have:=HT.out;simpa using this))
 have HX2:Hid (Below w1.heap.size w1 w2):=hid (by rw[HW2.out];exact zW (Nat.le_refl _) _ _ _ _ ((Below.refl _ _).alloc (Nat.le_refl _) _))
 have hz2:w2.heap.size=w1.heap.size+1:=by rw[HW2.out,vy];simp
 have HZ2:Hid (w1.heap.size<w2.heap.size):=hid (by omega)
 clear hz2
 have G0:Hid (w2.heap[w.heap.size]? = some (.cells #[.int .u32 a0,.int .u32 b0,.int .u32 c0,.int .u32 d0,.int .u32 e0] 293 (0,0))):=(HX2.out.block _ (by omega)).trans F0.out
 have G2:Hid (w2.heap[w.heap.size+1+1]? = some (.cells #[.int .u32 0,.int .u32 0,.int .u32 0,.int .u32 0,.int .u32 0] 293 (0,0))):=(HX2.out.block _ (by omega)).trans F2.out
 have r0:w2.cell? ⟨w.heap.size,0,none⟩=some (.int .u32 a0):=by rw[cell_of_row w2 w.heap.size 0 _ 293 _ G0.out];rfl
 have r1:w2.cell? ⟨w.heap.size,1,none⟩=some (.int .u32 b0):=by rw[cell_of_row w2 w.heap.size 1 _ 293 _ G0.out];rfl
 have r2:w2.cell? ⟨w.heap.size,2,none⟩=some (.int .u32 c0):=by rw[cell_of_row w2 w.heap.size 2 _ 293 _ G0.out];rfl
 have r3:w2.cell? ⟨w.heap.size,3,none⟩=some (.int .u32 d0):=by rw[cell_of_row w2 w.heap.size 3 _ 293 _ G0.out];rfl
 have r4:w2.cell? ⟨w.heap.size,4,none⟩=some (.int .u32 e0):=by rw[cell_of_row w2 w.heap.size 4 _ 293 _ G0.out];rfl
 go_wp2_with (refine wpList_store_mid rfl 314 _ _ rfl w1.heap.size 0 (row .u32 W).toArray rfl rfl HT.out T2.out T3.out ?_;rw[<-HW2.out])
 go_quiet (fail)
 go_wp2_with fail
 refine(kinds_any _).mono ?_
 rintro e w3 ⟨rfl,hb⟩
 have HX3:Hid (Below w2.heap.size w2 w3):=(zv _ w2 nq).trans hb
 clear hb r0 r1 r2 r3 r4
 have hz3:w2.heap.size<=w3.heap.size:=HX3.out.size
 have HS3:Hid (w3.rangeAt w1.heap.size 0 (row .u32 W)):=fun j v hv=>(HX3.out.cell (p:=⟨w1.heap.size,0+j,none⟩) HZ2.out).trans (HS2.out j v hv)
 have HZ3:Hid (w1.heap.size<w3.heap.size):=Nat.lt_of_lt_of_le HZ2.out hz3
 have HB3:Hid (Below w.heap.size w w3):=(HB1.out.trans (HX2.out.mono (by omega))).trans (HX3.out.mono (by have:=HX2.out.size;omega))
 have G0:Hid (w3.heap[w.heap.size]? = some (.cells #[.int .u32 a0,.int .u32 b0,.int .u32 c0,.int .u32 d0,.int .u32 e0] 293 (0,0))):=(HX3.out.block _ (by have:=HZ2.out;omega)).trans G0.out
 have G2:Hid (w3.heap[w.heap.size+1+1]? = some (.cells #[.int .u32 0,.int .u32 0,.int .u32 0,.int .u32 0,.int .u32 0] 293 (0,0))):=(HX3.out.block _ (by have:=HZ2.out;omega)).trans G2.out
 have hw13:w.heap.size+1+1<w3.heap.size:=by have:=HZ3.out;omega
 clear HX3 HX2 HW2 HB1 F0 F2 HT HS2 HZ2 hz3 hz1
 rw[<-HK.out]
 go_wp2
 go_loopg [6,7,8,9,10,29] 4 (fun k a b c d e i wr=>∃ (j:Nat) (s:S5),j<=4/\k=4-j/\i=.int .i64 j/\a=.int .u32 s.a/\b=.int .u32 s.b/\c=.int .u32 s.c/\d=.int .u32 s.d/\e=.int .u32 s.e/\Hid (s=rds W ⟨a0,b0,c0,d0,e0⟩ (20*j))/\Hid (Below w3.heap.size w3 wr))
 case atStart=>exact⟨0,⟨a0,b0,c0,d0,e0⟩,by omega,rfl,rfl,rfl,rfl,rfl,rfl,rfl,rfl,Below.refl _ _⟩
 case round =>
  obtain⟨wo,rfl⟩:∃ wo,wo=wr:=⟨_,rfl⟩
  obtain⟨j,⟨a,b,c,d,e⟩,hj,hk,rfl,rfl,rfl,rfl,rfl,rfl,HSt,HB⟩:=hrel
  by_cases hlt:j<4
  ·obtain⟨f,hidx,hcall,hf⟩:=kindAt j hlt
   rw[<-HK.out] at hidx
   obtain⟨kq,HKQ⟩:=nn_ (ki (20*j))
   rw[<-HKQ.out] at hidx
   have hwz:w3.heap.size<=wo.heap.size:=HB.out.size
   obtain⟨m,HM⟩:=nn_ (20*j)
   have hm60:m<=60:=by have:=HM.out;omega
   have hjm:(j:Int)*20=(m:Int):=by have:=HM.out;omega
   have hjm2:((j:Int)+1)*20=((m+20:Nat):Int):=by have:=HM.out;omega
   have HT:Hid ((wo.alloc (.cells #[.nilFunc,.int .u32 0] 318)).there wo.heap.size 0 2):=jW (heap_alloc_new wo _) rfl
   obtain⟨w4,HW4⟩:=nn_ ((wo.alloc (.cells #[.nilFunc,.int .u32 0] 318)).setCells wo.heap.size 0 (#[.func (.func f) #[] #[],.int .u32 kq] : Array Value).toList)
   have HR4:Hid (w4.rangeAt wo.heap.size 0 [.func (.func f) #[] #[],.int .u32 kq]):=hid (by rw[HW4.out];exact World.rangeAt_setCells_same _ wo.heap.size 0 _ HT.out)
   have k0:w4.cell? ⟨wo.heap.size,0,none⟩=some (.func (.func f) #[] #[]):=HR4.out 0 _ rfl
   have k1:w4.cell? ⟨wo.heap.size,1,none⟩=some (.int .u32 kq):=HR4.out 1 _ rfl
   have HX4:Hid (Below wo.heap.size wo w4):=hid (by rw[HW4.out];exact zW (Nat.le_refl _) _ _ _ _ ((Below.refl _ _).alloc (Nat.le_refl _) _))
   have HB4:Hid (Below w3.heap.size w3 w4):=HB.out.trans (HX4.out.mono hwz)
   have HC4:Hid (∀ i,i<80->w4.cell? ⟨w1.heap.size,i,none⟩=some (.int .u32 (W.getD i 0))):=fun i hi=>(HB4.out.cell (p:=⟨w1.heap.size,i,none⟩) HZ3.out).trans (by have:=HS3.out i _ (uK .u32 W i (by omega));rwa [Nat.zero_add] at this)
   clear HX4 HB
   have hsl:=fun w=>slice47 w1.heap.size m w hm60
   obtain⟨cp,HCP⟩:=nn_ (80-m:Nat)
   rw[<-HCP.out] at hsl
   rcases hf with rfl | rfl | rfl
   all_goals
    go_wp2_with (refine wpList_store_mid rfl 318 _ _ rfl wo.heap.size 0 _ rfl rfl HT.out Tryz.size318 (by simp[Value.oneCell']) ?_;rw[<-HW4.out])
    go_loopg [6,7,8,9,10,40] 20 (fun k a b c d e i wr=>∃ (n:Nat) (s:S5),n<=20/\k=20-n/\i=.int .i64 n/\a=.int .u32 s.a/\b=.int .u32 s.b/\c=.int .u32 s.c/\d=.int .u32 s.d/\e=.int .u32 s.e/\Hid (s=rds W ⟨a0,b0,c0,d0,e0⟩ (m+n))/\Hid (∃ q,wr=w4.drewN q))
    case atStart=>exact⟨0,⟨a,b,c,d,e⟩,by omega,rfl,rfl,rfl,rfl,rfl,rfl,rfl,hid (by rw[Nat.add_zero,HM.out];exact HSt.out),⟨0,rfl⟩⟩
    case round =>
     clear HSt
     obtain⟨n,⟨a,b,c,d,e⟩,hn,hk2,rfl,rfl,rfl,rfl,rfl,rfl,HSt,HQ⟩:=hrel
     by_cases hn20:n<20
     ·obtain⟨ha,hb,hc,hd,he⟩:S5.ok ⟨a,b,c,d,e⟩:=by rw[HSt.out];exact rds_ok W _ HS.out _
      obtain⟨x,HX⟩:=nn_ (W.getD (m+n) 0)
      have hx:U x:=by rw[HX.out];exact hWw.at _
      have hcl:wr.cell? ⟨w1.heap.size,m+n,none⟩=some (.int .u32 x):=by obtain⟨q,hq⟩:=HQ.out;rw[hq,HX.out];exact HC4.out _ (by omega)
      have k0':wr.cell? ⟨wo.heap.size,0,none⟩=w4.cell? ⟨wo.heap.size,0,none⟩:=by obtain⟨q,hq⟩:=HQ.out;rw[hq];rfl
      have k1':wr.cell? ⟨wo.heap.size,1,none⟩=some (.int .u32 kq):=by obtain⟨q,hq⟩:=HQ.out;rw[hq];exact k1
      rw[k0] at k0'
      have hcn:=fun w=>same (hcall n b c d w hn20 hb hc hd)
      rw[<-HM.out] at hcn
      obtain⟨fv,HF⟩:=nn_ (fi (m+n) b c d)
      have hfv:U fv:=by rw[HF.out];exact fi_bd _ _ _ _
      rw[<-HF.out] at hcn
      obtain⟨t5,HT5⟩:=nn_ (turn5 a)
      have ht5:U t5:=by rw[HT5.out];exact turn5_bd a
      have hr5:=fun w=>same (rot5 a w ha)
      rw[<-HT5.out] at hr5
      have hr30:=fun w=>rot30 b w hb
      have hkq:U kq:=by rw[HKQ.out];exact ki_bd _
      obtain⟨ha1,ha2⟩:=ha
      obtain⟨he1,he2⟩:=he
      obtain⟨hx1,hx2⟩:=hx
      obtain⟨hf1,hf2⟩:=hfv
      obtain⟨ht1,ht2⟩:=ht5
      obtain⟨hq1,hq2⟩:=hkq
      go_wp2
      go_quiet (first | (go_at_call 214;exact Calls.quiet_of_same (hr5 _)) | (go_at_call 233;exact Calls.quiet_of_same (hcn _)) | (go_at_call 234;exact Calls.quiet_of_same (hcn _)) | (go_at_call 235;exact Calls.quiet_of_same (hcn _)))
      go_wp2_with (go_at_call 214;refine(hr30 _).mono ?_;rintro e w' ⟨rfl,rfl⟩)
      go_roundg (20-(n+1))
      case measure=>omega
      case rel =>
       refine⟨n+1,rd W (m+n) ⟨a,b,c,d,e⟩,by omega,rfl,by go_num,?_,rfl,rfl,rfl,rfl,hid ?_,?_⟩
       ·simp only[rd]
        rw[<-HT5.out,<-HF.out,<-HX.out,HM.out,ki_same j n hn20,<-HKQ.out]
       ·rw[HSt.out];rfl
       ·obtain⟨q,hq⟩:=HQ.out
        exact⟨q+nq,by rw[hq,World.drewN_drewN]⟩
     ·obtain rfl:n=20:=by omega
      go_wp2
      go_roundg (4-(j+1))
      case measure=>omega
      case rel =>
       obtain⟨q,hq⟩:=HQ.out
       exact⟨j+1,⟨a,b,c,d,e⟩,by omega,rfl,by go_num,rfl,rfl,rfl,rfl,rfl,hid (by rw[HSt.out,HM.out];rfl),hid (by rw[hq];exact HB4.out.trans (zv _ _ _))⟩
  ·obtain rfl:j=4:=by omega
   have hwz:w3.heap.size<=wo.heap.size:=HB.out.size
   have K0:Hid (wo.heap[w.heap.size]? = some (.cells #[.int .u32 a0,.int .u32 b0,.int .u32 c0,.int .u32 d0,.int .u32 e0] 293 (0,0))):=(HB.out.block _ (by omega)).trans G0.out
   have K2:Hid (wo.there (w.heap.size+1+1) 0 5):=jW ((HB.out.block _ (by omega)).trans G2.out) rfl
   have r0:wo.cell? ⟨w.heap.size,0,none⟩=some (.int .u32 a0):=by rw[cell_of_row wo w.heap.size 0 _ 293 _ K0.out];rfl
   have r1:wo.cell? ⟨w.heap.size,1,none⟩=some (.int .u32 b0):=by rw[cell_of_row wo w.heap.size 1 _ 293 _ K0.out];rfl
   have r2:wo.cell? ⟨w.heap.size,2,none⟩=some (.int .u32 c0):=by rw[cell_of_row wo w.heap.size 2 _ 293 _ K0.out];rfl
   have r3:wo.cell? ⟨w.heap.size,3,none⟩=some (.int .u32 d0):=by rw[cell_of_row wo w.heap.size 3 _ 293 _ K0.out];rfl
   have r4:wo.cell? ⟨w.heap.size,4,none⟩=some (.int .u32 e0):=by rw[cell_of_row wo w.heap.size 4 _ 293 _ K0.out];rfl
   have HF:Hid (comp ⟨a0,b0,c0,d0,e0⟩ zs=⟨(a0+a) % 4294967296,(b0+b) % 4294967296,(c0+c) % 4294967296,(d0+d) % 4294967296,(e0+e) % 4294967296⟩):=hid (by unfold comp;rw[<-HW.out,<-HSt.out];rfl)
   have HBF:Hid (Below w.heap.size w wo):=HB3.out.trans (HB.out.mono (by omega))
   obtain⟨ha,hb,hc,hd,he⟩:S5.ok ⟨a,b,c,d,e⟩:=by rw[HSt.out];exact rds_ok W _ HS.out _
   obtain⟨ha1,ha2⟩:=ha
   obtain⟨hb1,hb2⟩:=hb
   obtain⟨hc1,hc2⟩:=hc
   obtain⟨hd1,hd2⟩:=hd
   obtain⟨he1,he2⟩:=he
   obtain⟨ia1,ia2⟩:=ha0
   obtain⟨ib1,ib2⟩:=hb0
   obtain⟨ic1,ic2⟩:=hc0
   obtain⟨id1,id2⟩:=hd0
   obtain⟨ie1,ie2⟩:=he0
   go_wp2_with (refine wpList_store_mid rfl 293 _ _ rfl (w.heap.size+1+1) 0 _ rfl rfl K2.out Tryz.size293 (by simp[Value.oneCell']) ?_)
   refine bodyPost_ret (qW Tryz.results189 _ _ (w.heap.size+1+1) _ _ rfl (World.rangeAt_setCells_same wo (w.heap.size+1+1) 0 _ K2.out) Tryz.underlying293 rfl Tryz.size293) rfl ⟨?_,zW (by omega) _ _ _ _ HBF.out⟩
   rw[HF.out]
theorem step_copy {P:Program} {ops:Array Oper} {o:Oper} {a:Act} {w:World} {K:Act->World->Prop} {Q:Exit->Act->World->Prop} {E:Prop} (hg:o.guard=none) (s x:Operand) (t:TypeId) (sv xv v:Value) (w2:World)
  (ho:o.op=.call { callee:=.builtin .copy,args:=#[s,x],argTypes:=#[t,t] }) (hs:a.eval s=sv) (hx:a.eval x=xv) (hrun:(Builtin.copy_ #[t,t] o.type #[sv,xv]).run P w=.ok v w2) (h:K (a.put o.dst v) w2) :
  if Region.wanted o (yielded ops a.tmps)=true then Oper.wp P o a w K Q else E:=by
 have hw:Region.wanted o (yielded ops a.tmps)=true:=by simp[Region.wanted,hg]
 rw[if_pos hw]
 unfold Oper.wp execOp
 simp only[ho,resolve,invoke,builtin,Sem.run_bind,Sem.run_pure,Result.andThen_ok,List.map_toArray,List.map_cons,List.map_nil,hs,hx,hrun]
 exact h
end Go.Proofs.YtgliaiemkfopeaaGreatDoor
