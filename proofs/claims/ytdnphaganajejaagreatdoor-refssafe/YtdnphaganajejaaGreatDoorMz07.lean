import Derived.Test.YtdnphaganajejaaGreatDoorMz06
set_option linter.unusedSimpArgs false
set_option linter.unusedVariables false
set_option maxRecDepth 20000
set_option maxHeartbeats 4000000
open Int renaming eq_ofNat_of_zero_le->Wz0
open List renaming map_cons->WzK,map_nil->WzV
open Nat renaming le_refl->Wz8,le_trans->Wz9,lt_or_ge->Wy4,zero_add->Wzz
namespace Go.Proofs.YtdnphaganajejaaGreatDoor
open Go.Proofs.Tryz
open Go.RowKit Go.Extern.Stop Go.Stop Go.Extern
theorem N0 (t:Addr) (w:World):(ReflectliteValue.unpack (.iface 65 (.pointer (some t)))).run prog w
  = .ok (.agg #[.pointer (some ⟨10,65,none⟩),.pointer (some ⟨w.heap.size,0,none⟩),.int .u64 150]) (w.alloc (.cells #[.pointer (some t)] 65)):=by kernel_rfl
theorem zy3 (a:Addr) (w:World):(ReflectliteValue.methodAny (ReflectliteValue.valueError "reflectlite.Value.Type" 0) (fun t _ _ _=>ReflectliteType.toType t) #[.agg #[.pointer (some ⟨10,65,none⟩),.pointer (some a),.int .u64 150]]).run prog w
  = .ok (.iface 179 (.agg #[.pointer (some ⟨10,65,none⟩)])) w:=by kernel_rfl
theorem Jy (h:Value) (w:World):(Go.method 469 179 (.agg #[h]) "Kind").run prog w=.ok (258,h) w:=by kernel_rfl
theorem zy4 (w:World):((ReflectliteType.abiMethod fun t=>(fun a:Nat=>Value.int IntKind.u8 (a:Int)) <$> Rtype.kind t) #[.pointer (some ⟨10,65,none⟩)]).run prog w=.ok (.int .u8 22) w:=by kernel_rfl
theorem zy5 (w:World):((ReflectliteType.abiMethod fun t=>(fun a:Nat=>Value.int IntKind.u8 (a:Int)) <$> Rtype.kind t) #[.pointer (some ⟨10,32,none⟩)]).run prog w=.ok (.int .u8 2) w:=by kernel_rfl
theorem Ju (h:Value) (w:World):(Go.method 469 179 (.agg #[h]) "Elem").run prog w=.ok (271,.agg #[h]) w:=by kernel_rfl
theorem Zv (h:Value) (w:World):(Go.method 469 179 (.agg #[h]) "Implements").run prog w=.ok (272,.agg #[h]) w:=by kernel_rfl
theorem jK (h:Value) (w:World):(Go.method 469 179 (.agg #[h]) "AssignableTo").run prog w=.ok (269,.agg #[h]) w:=by kernel_rfl
theorem zy6 (w:World):(ReflectliteType.method ReflectliteType.elem #[.agg #[.pointer (some ⟨10,65,none⟩)]]).run prog w=.ok (.iface 179 (.agg #[.pointer (some ⟨10,32,none⟩)])) w:=by kernel_rfl
theorem V2 (w:World):(ReflectliteType.relation "Implements" ReflectliteType.implements_ #[.agg #[.pointer (some ⟨10,32,none⟩)],.iface 179 (.agg #[.pointer (some ⟨10,27,none⟩)])]).run prog w=.ok (.bool true) w:=by kernel_rfl
theorem V3 (v:Value) (w:World):(ReflectliteType.typeOf #[.iface 32 v]).run prog w=.ok (.iface 179 (.agg #[.pointer (some ⟨10,32,none⟩)])) w:=by kernel_rfl
theorem V4 (w:World):(ReflectliteType.relation "AssignableTo" ReflectliteType.assignableTo #[.agg #[.pointer (some ⟨10,32,none⟩)],.iface 179 (.agg #[.pointer (some ⟨10,32,none⟩)])]).run prog w=.ok (.bool true) w:=by kernel_rfl
theorem N3 (k:Int) (w:World):(ReflectliteValue.unpack (.iface 32 (.int .i64 k))).run prog w
  = .ok (.agg #[.pointer (some ⟨10,32,none⟩),.pointer (some ⟨w.heap.size,0,none⟩),.int .u64 130]) (w.alloc (.cells #[.int .i64 k] 32)):=by kernel_rfl
theorem zy7 (w:World):(Rtype.elem? 65).run prog w=.ok (some 32) w:=by kernel_rfl
theorem mk32 (p:Addr) (w:World):(ReflectliteValue.mk 32 p ReflectliteValue.flagAddr).run prog w=.ok (.agg #[.pointer (some ⟨10,32,none⟩),.pointer (some p),.int .u64 386]) w:=by kernel_rfl
theorem zy8 (w:World):(Rtype.directlyAssignable 32 32).run prog w=.ok true w:=by kernel_rfl
theorem zy9 (a:Addr) (W:World):(ReflectliteValue.method (ReflectliteValue.valueError "reflectlite.Value.IsNil" 0) ReflectliteValue.isNil #[.agg #[.pointer (some ⟨10,65,none⟩),.pointer (some a),.int .u64 150]]).run prog W=(ReflectliteValue.isNil 65 a 150 22).run prog W:=by kernel_rfl
theorem zkJ (a:Addr) (W:World):(ReflectliteValue.method (ReflectliteValue.valueError "reflectlite.Value.Elem" 0) ReflectliteValue.elem #[.agg #[.pointer (some ⟨10,65,none⟩),.pointer (some a),.int .u64 150]]).run prog W=(ReflectliteValue.elem 65 a 150 22).run prog W:=by kernel_rfl
theorem qvQ (ta b:Addr) (W:World):(ReflectliteValue.set #[.agg #[.pointer (some ⟨10,32,none⟩),.pointer (some ta),.int .u64 386],.agg #[.pointer (some ⟨10,32,none⟩),.pointer (some b),.int .u64 130]]).run prog W=(loadVar 32 b >>= fun val=>storeVar 32 ta val >>= fun _=>pure (.tuple #[])).run prog W:=by kernel_rfl
theorem EJ (a p:Addr) (W:World) (h:W.cell? a=some (.pointer (some p))) :
  (ReflectliteValue.method (ReflectliteValue.valueError "reflectlite.Value.IsNil" 0) ReflectliteValue.isNil #[.agg #[.pointer (some ⟨10,65,none⟩),.pointer (some a),.int .u64 150]]).run prog W=.ok (.bool false) W:=by
 rw[zy9];simp[ReflectliteValue.isNil,loadVar,isAgg,underlying,underlying65,h,Result.andThen]
theorem EK (a p:Addr) (W:World) (h:W.cell? a=some (.pointer (some p))) :
  (ReflectliteValue.method (ReflectliteValue.valueError "reflectlite.Value.Elem" 0) ReflectliteValue.elem #[.agg #[.pointer (some ⟨10,65,none⟩),.pointer (some a),.int .u64 150]]).run prog W
   = .ok (.agg #[.pointer (some ⟨10,32,none⟩),.pointer (some p),.int .u64 386]) W:=by
 rw[zkJ];simp[ReflectliteValue.elem,loadVar,isAgg,underlying,underlying65,h,Result.andThen,zy7,mk32]
theorem qx4 (ta b:Addr) (k:Int) (old:Value) (W:World) (hb:W.cell? b=some (.int .i64 k)) (j:W.cell? ta=some old) (h:W.frozen? ta=false) :
  (ReflectliteValue.set #[.agg #[.pointer (some ⟨10,32,none⟩),.pointer (some ta),.int .u64 386],.agg #[.pointer (some ⟨10,32,none⟩),.pointer (some b),.int .u64 130]]).run prog W
   = .ok (.tuple #[]) (W.setCell ta (.int .i64 k)):=by
 rw[qvQ];simp[loadVar,isAgg,underlying,underlying32,hb,Result.andThen,zy8,storeVar,Value.cells,storeCells,Addr.add];rw[run_store prog W ta _ _ (by rfl)];simp[j,h]
set_option maxRecDepth 100000 in
theorem qvX (k:Int) (t:Addr) (old:Value) (w:World) (L:w.cell? ⟨0,0,none⟩=some (.iface 179 (.agg #[.pointer (some ⟨10,27,none⟩)]))) (j:w.cell? t=some old) (D:w.frozen? t=false) :
  Calls prog 16 #[.iface 32 (.int .i64 k),.iface 65 (.pointer (some t))] w fun O w'=>O=.returned (.bool true)/\w'=((((w.alloc (.cells #[.pointer (some t)] 65)).alloc (.cells #[.pointer (some ⟨10,65,none⟩),.pointer (some ⟨w.heap.size,0,none⟩),.int .u64 150] 107)).alloc (.cells #[.pointer (some ⟨10,65,none⟩),.pointer (some ⟨w.heap.size,0,none⟩),.int .u64 150] 107)).alloc (.cells #[.int .i64 k] 32)).setCell t (.int .i64 k):=by
 have Q:=@run_callFunc_extern prog 41 _ (fun args=>ReflectliteValue.unpack (args.getD 0 (.tuple #[]))) func41 (by kernel_rfl) (by kernel_rfl) (by kernel_rfl) (by kernel_rfl)
 have V:=@run_callFunc_extern prog 42 _ (ReflectliteValue.methodAny (ReflectliteValue.valueError "reflectlite.Value.Type" 0) (fun t _ _ _=>ReflectliteType.toType t)) func42 (by kernel_rfl) (by kernel_rfl) (by kernel_rfl) (by kernel_rfl)
 have Y:=@run_callFunc_extern prog 43 _ (ReflectliteValue.method (ReflectliteValue.valueError "reflectlite.Value.IsNil" 0) ReflectliteValue.isNil) func43 (by kernel_rfl) (by kernel_rfl) (by kernel_rfl) (by kernel_rfl)
 have a8:=@run_callFunc_extern prog 258 _ (ReflectliteType.abiMethod fun t=>do pure (.int .u8 (<-Rtype.kind t))) func258 (by kernel_rfl) (by kernel_rfl) (by kernel_rfl) (by kernel_rfl);have J:=@run_callFunc_extern prog 271 _ (ReflectliteType.method ReflectliteType.elem) func271 (by kernel_rfl) (by kernel_rfl) (by kernel_rfl) (by kernel_rfl)
 have K:=@run_callFunc_extern prog 272 _ (ReflectliteType.relation "Implements" ReflectliteType.implements_) func272 (by kernel_rfl) (by kernel_rfl) (by kernel_rfl) (by kernel_rfl);have Z:=@run_callFunc_extern prog 74 _ ReflectliteType.typeOf func74 (by kernel_rfl) (by kernel_rfl) (by kernel_rfl) (by kernel_rfl)
 have I:=@run_callFunc_extern prog 269 _ (ReflectliteType.relation "AssignableTo" ReflectliteType.assignableTo) func269 (by kernel_rfl) (by kernel_rfl) (by kernel_rfl) (by kernel_rfl)
 have a6:=@run_callFunc_extern prog 83 _ (ReflectliteValue.method (ReflectliteValue.valueError "reflectlite.Value.Elem" 0) ReflectliteValue.elem) func83 (by kernel_rfl) (by kernel_rfl) (by kernel_rfl) (by kernel_rfl);have a7:=@run_callFunc_extern prog 84 _ ReflectliteValue.set func84 (by kernel_rfl) (by kernel_rfl) (by kernel_rfl) (by kernel_rfl)
 have tO:=V3;have mA:=jK;have a32:=V4;have v32:=N3;have f6:=N0;have f7:=zy3;have mK:=Jy;have mE:=Ju;have mI:=Zv;have ae:=zy4;have ad:=zy5;have M:=zy6;have i32:=V2
 have n8:=EJ ⟨w.heap.size,0,none⟩ t ((w.alloc (.cells #[.pointer (some t)] 65)).alloc (.cells #[.pointer (some ⟨10,65,none⟩),.pointer (some ⟨w.heap.size,0,none⟩),.int .u64 150] 107)) (by simp);have G:0<w.heap.size:=by
  rcases Wy4 0 w.heap.size with h | h
  ·exact h
  simp[World.cell?,Array.getElem?_eq_none h] at L
 have ac:((w.alloc (.cells #[.pointer (some t)] 65)).alloc (.cells #[.pointer (some ⟨10,65,none⟩),.pointer (some ⟨w.heap.size,0,none⟩),.int .u64 150] 107)).cell? ⟨0,0,none⟩=some (.iface 179 (.agg #[.pointer (some ⟨10,27,none⟩)])):=by
  rw[World.cell?_alloc_lt _ _ ⟨0,0,none⟩ (by simp),World.cell?_alloc_lt _ _ ⟨0,0,none⟩ G];exact L
 have A:t.block<w.heap.size:=by
  rcases Wy4 t.block w.heap.size with h | h
  ·exact h
  simp[World.cell?,Array.getElem?_eq_none h] at j
 have el:=EK ⟨w.heap.size,0,none⟩ t (((w.alloc (.cells #[.pointer (some t)] 65)).alloc (.cells #[.pointer (some ⟨10,65,none⟩),.pointer (some ⟨w.heap.size,0,none⟩),.int .u64 150] 107)).alloc (.cells #[.pointer (some ⟨10,65,none⟩),.pointer (some ⟨w.heap.size,0,none⟩),.int .u64 150] 107)) (by rw[World.cell?_alloc_lt _ _ ⟨w.heap.size,0,none⟩ (by simp;omega)];simp)
 have st:=qx4 t ⟨w.heap.size+1+1+1,0,none⟩ k old ((((w.alloc (.cells #[.pointer (some t)] 65)).alloc (.cells #[.pointer (some ⟨10,65,none⟩),.pointer (some ⟨w.heap.size,0,none⟩),.int .u64 150] 107)).alloc (.cells #[.pointer (some ⟨10,65,none⟩),.pointer (some ⟨w.heap.size,0,none⟩),.int .u64 150] 107)).alloc (.cells #[.int .i64 k] 32))
  (by rw[World.cell?_alloc_at _ _ _ _ (by simp)];rfl)
  (by rw[World.cell?_alloc_lt _ _ t (by simp;omega),World.cell?_alloc_lt _ _ t (by simp;omega),World.cell?_alloc_lt _ _ t (by simp;omega),World.cell?_alloc_lt _ _ t A];exact j)
  (by rw[World.frozen?_alloc_old _ _ t (by simp;omega),World.frozen?_alloc_old _ _ t (by simp;omega),World.frozen?_alloc_old _ _ t (by simp;omega),World.frozen?_alloc_old _ _ t (Nat.ne_of_lt A)];exact D)
 go_enter func16,ntmps16;go_wp2;refine wp_loop_rounds 1 ?_;rw[rounds_succ];go_wp2;go_ret;exact⟨rfl,rfl⟩
theorem V5 (w:World):Calls prog 7 #[.nilIface] w fun e w'=>e=.returned (.int .i64 0)/\Below w.heap.size w w':=by
 have h:Hid (Below w.heap.size w (w.alloc (.cells #[.int .i64 0] 32))):=(Below.refl _ w).alloc (Wz8 _) _;go_enter func7,ntmps7;go_wp2;go_ret;exact⟨rfl,h.out⟩
theorem JZ (k:Int) (w:World) (D:w.cell? ⟨0,0,none⟩=some (.iface 179 (.agg #[.pointer (some ⟨10,27,none⟩)]))) :
  Calls prog 7 #[.iface 32 (.int .i64 k)] w fun e w'=>e=.returned (.int .i64 k)/\Below w.heap.size w w':=by
 have A:0<w.heap.size:=by
  rcases Wy4 0 w.heap.size with h | h
  ·exact h
  simp[World.cell?,Array.getElem?_eq_none h] at D
 have j:(w.alloc (.cells #[.int .i64 0] 32)).cell? ⟨0,0,none⟩=some (.iface 179 (.agg #[.pointer (some ⟨10,27,none⟩)])):=by
  rw[World.cell?_alloc_lt _ _ ⟨0,0,none⟩ A];exact D
 go_enter func7,ntmps7;go_wp2_with (go_at_call 16;refine(qvX k ⟨w.heap.size,0,none⟩ (.int .i64 0) _ j (by simp) (by simp[go_sem])).mono ?_;rintro e w' ⟨rfl,rfl⟩)
 go_ret;exact⟨rfl,(((((Below.refl _ w).alloc (Wz8 _) _).alloc (by simp) _).alloc (by simp;omega) _).alloc (by simp;omega) _).alloc (by simp;omega) _⟩
end Go.Proofs.YtdnphaganajejaaGreatDoor
namespace Go.Proofs.YtdnphaganajejaaGreatDoor.Hx
open Go.Proofs.Tryz
open Go.RowKit
theorem info5:(prog.info? 5).map (fun i=>(i.zero,i.size,i.bytes))=some (some (.int .u8 0),1,1):=by kernel_rfl
theorem info116:(prog.info? 116).map (·.size)=some 20:=by kernel_rfl
theorem qQ {o:Option TypeInfo} {z:Value} {a b:Nat} (h:o.map (fun i=>(i.zero,i.size,i.bytes))=some (some z,a,b)):∃ i,o=some i/\i.zero=some z/\i.size=a/\i.bytes=b:=by
 cases o with
 | none=>simp at h
 | some i=>simp at h;exact⟨i,rfl,h.1,h.2.1,h.2.2⟩
def row (zs:List Int):List Value:=zs.map (Value.int .u8)
theorem zv (zs:List Int):(row zs).length=zs.length:=by simp[row]
theorem uW (zs:List Int) (i:Nat) (h:i<zs.length):(row zs)[i]? = some (.int .u8 (zs.getD i 0)):=by simp[row,h]
theorem yK (zs:List Int):∀ v ∈ row zs,v.oneCell'=true:=by
 intro v hv;simp only[row,List.mem_map] at hv;obtain⟨c,_,rfl⟩:=hv;rfl
theorem jZ (zs:List Int) (n:Nat) (c:Int):(row zs).toArray.setIfInBounds n (.int .u8 c)=(row (zs.set n c)).toArray:=by
 simp[row,List.map_set]
theorem xQ {w:World} {g:Nat} {zs:List Int} {t:TypeId} {fr:Nat × Nat} (h:w.heap[g]? = some (.cells (row zs).toArray t fr)) (i:Nat) (hi:i<zs.length):w.cell? ⟨g,i,none⟩=some (.int .u8 (zs.getD i 0)):=by
 rw[cell_of_row w g i _ t fr h];simpa using uW zs i hi
theorem zw {w:World} {g:Nat} {cs:List Value} {t:TypeId} {fr:Nat × Nat} (h:w.heap[g]? = some (.cells cs.toArray t fr)):w.rangeAt g 0 cs:=fun j v hv=>by
 rw[Wzz,cell_of_row w g j _ t fr h];simpa using hv
theorem yW {w:World} {g n:Nat} {zs:List Int} {t:TypeId} (h:w.heap[g]? = some (.cells (row zs).toArray t (0,0))) (D:zs.length=n):w.there g 0 n:=fun j A=>by
 rw[Wzz];exact⟨by rw[xQ h j (by omega)];rfl,frozen_of_row w g j _ t h⟩
def dig (n:Int):Int:=if n<10 then 48+n else 87+n
def hexOf (zs:List Int):List Int:=zs.flatMap fun x=>[dig (x / 16),dig (x % 16)]
theorem Cx (l:List Int) (x:Int):hexOf (l++[x])=hexOf l++[dig (x / 16),dig (x % 16)]:=by simp[hexOf]
theorem hexOf_len (l:List Int):(hexOf l).length=2*l.length:=by
 induction l with
 | nil=>rfl
 | cons a l h=>simp[hexOf] at h ⊢;omega
theorem GQ (zs:List Int) (k:Nat) (h:k<zs.length):zs.take (k+1)=zs.take k++[zs.getD k 0]:=by
 rw[List.take_succ_eq_append_getElem h];simp[h]
theorem YZ {P:Program} (t e:TypeId) (n:Nat) (cs:Array Value) (k:IntKind) (i:Nat) (v:Value) (w:World) (h:P.underlying t=some (.array n e)) (D:(P.info? e).map (·.size)=some 1) (d:TypeDesc) (G:P.underlying e=some d) (hd:d.isRow=false) (hi:i<n) (hv:cs[i]? = some v) :
  (Instr.index t (.agg cs) (.int k i)).run P w=.ok v w:=by
 cases A:P.info? e with
 | none=>simp[A] at D
 | some inf =>
  have hs:inf.size=1:=by simpa [A] using D
  have j:(isAgg e).run P w=.ok false w:=by
   unfold isAgg;rw[Sem.run_bind,run_underlying G w];cases d <;> simp_all
  simp[Instr.index,asIntOf,run_underlying h,hi,part,sizeOf,typeInfo,A,hs,j,hv]
theorem size5:(prog.info? 5).map (·.size)=some 1:=by kernel_rfl
theorem JQ (v:Int) (w:World) (h0:0<=v) (j:v<16):(Instr.index 9 (.string { data:=#[48,49,50,51,52,53,54,55,56,57,97,98,99,100,101,102] }) (.int .u8 v)).run prog w=.ok (.int .u8 (dig v)) w:=by
 obtain⟨n,rfl⟩:=Wz0 h0;have h:n<16:=by omega
 match n,h with
 | 0,_=>show _=_;kernel_rfl
 | 1,_=>show _=_;kernel_rfl
 | 2,_=>show _=_;kernel_rfl
 | 3,_=>show _=_;kernel_rfl
 | 4,_=>show _=_;kernel_rfl
 | 5,_=>show _=_;kernel_rfl
 | 6,_=>show _=_;kernel_rfl
 | 7,_=>show _=_;kernel_rfl
 | 8,_=>show _=_;kernel_rfl
 | 9,_=>show _=_;kernel_rfl
 | 10,_=>show _=_;kernel_rfl
 | 11,_=>show _=_;kernel_rfl
 | 12,_=>show _=_;kernel_rfl
 | 13,_=>show _=_;kernel_rfl
 | 14,_=>show _=_;kernel_rfl
 | 15,_=>show _=_;kernel_rfl
theorem and15 (x:Int) (h0:0<=x) (h:x<256):bits .and .u8 x 15=x % 16:=by
 obtain⟨n,rfl⟩:=Wz0 h0;have:∀ n:Nat,n<256->bits .and .u8 (n:Int) 15=(n:Int) % 16:=by decide +kernel
 exact this n (by omega)
theorem QK (w:World) (o:Obj) (row:Option Nat):w.grownBy (w.alloc o).drew row:=let h:=World.grownBy_alloc w o row;⟨h.os,h.tape,h.output,h.size,h.block⟩
theorem yu {w:World} {B:Nat} {e:TypeId} {s:Nat} {v:Value} {n:Nat} {xs:List Value} (h:w.ownsRow B e s v n xs) (k:Nat) (j:v.ownBlock=some k):B<=k/\k<w.heap.size:=h.lt k j
theorem ZW {B:Nat} {w0 w j w3:World} {r:Option Nat} (h:Below B w0 w) (hB:B<=w0.heap.size) (hx:w.grownBy j none) (A:j.grownBy w3 r) (hr:∀ k,r=some k->B<=k):Below B w0 w3 :=
 (h.grown hx (Wz9 hB h.size) (fun k h=>by cases h)).grown A (Wz9 (Wz9 hB h.size) hx.size) hr
theorem hex_prog (zs:List Int) (w:World) (hl:zs.length=20) (hz:∀ n ∈ zs,0<=n/\n<256) :
  Calls prog 115 #[.agg (row zs).toArray] w fun e w'=>e=.returned (.string (strOfNums (hexOf zs)))/\Below w.heap.size w w':=by
 obtain⟨i5,hi,a8,ac,ad⟩:=qQ info5;obtain⟨arr,HA⟩:=nn_ (row zs);rw[<-HA.out];have hsz:arr.toArray.size=20:=by rw[HA.out,List.size_toArray,zv];exact hl
 have K:Hid (Below w.heap.size w (w.alloc (.cells arr.toArray 116))):=(Below.refl _ w).alloc (Wz8 _) _;have M:Hid ((w.alloc (.cells arr.toArray 116)).rangeAt w.heap.size 0 arr):=zw (heap_alloc_new w _);go_enter func115,ntmps115
 go_wp2_with (at_make;refine wpList_make_own _ rfl _ _ 82 rfl w.heap.size 5 i5 (.int .u8 0) 1 underlying82 hi a8 ac _ _ _ 40 rfl rfl ?c1 ?c2 ?c3 ?c4 ?_)
 case c1=>rfl
 case c2=>rw[ad];omega
 case c3=>unfold maxLen;omega
 case c4=>simp
 intro w1 D A;have O:w1.rangeAt w.heap.size 0 arr:=fun j v I=>(World.cell?_of_block (a:=⟨w.heap.size,0+j,none⟩) (A.block _ (by simp) (by simp))).trans (M.out j v I);have L:Hid (Below w.heap.size w w1):=K.out.grown A (by simp) (fun k h=>by cases h);clear K A M
 have a6:(prog.info? 116).map (·.size)=some arr.length:=by rw[info116,<-hsz];simp
 go_wp2_with (refine wpList_load_mid rfl 116 _ rfl w.heap.size 0 rfl arr _ O underlying116 rfl a6 ?_)
 clear O;go_loopg [3,8] 20 (fun k s i wr=>∃ j g J:Nat,j<=20/\k=20-j/\i=.int .i64 j/\s=.slice (some ⟨g,0,none⟩) (2*j) J/\wr.ownsRow w.heap.size 5 1 (.slice (some ⟨g,0,none⟩) (2*j) J) (2*j) ((hexOf (zs.take j)).map (Value.int .u8))/\Hid (Below w.heap.size w wr));case atStart=>exact⟨0,_,_,by omega,rfl,rfl,rfl,by simpa [hexOf] using D,L⟩
 case round =>
 clear D L;obtain⟨j,g,J,I,hk,rfl,rfl,D,HB⟩:=hrel;by_cases a7:j<20;rotate_left
 ·obtain rfl:j=20:=by omega
  have Z:∀ dst,prog.underlying dst=some .string->(convert 82 dst (.slice (some ⟨g,0,none⟩) 40 J)).run prog wr=.ok (.string (strOfNums (hexOf zs))) wr :=
   run_convert_bytes_arg wr 82 5 underlying82 underlying5 g 0 40 J (hexOf zs) (by rw[hexOf_len];omega) fun i hi=>by
    rw[Wzz,D.cellAt i (by omega),List.take_of_length_le (by omega),List.getElem?_map,List.getElem?_eq_getElem (by rw[hexOf_len];omega)]
    simp[show i<(hexOf zs).length by rw[hexOf_len];omega]
  have aj:=Z 9 underlying9;clear Z D;go_wp2;go_ret;exact⟨rfl,HB.out⟩
 obtain⟨x,HX⟩:=nn_ (zs.getD j 0);have hg:arr.toArray[j]? = some (.int .u8 x):=by rw[HA.out,HX.out];simpa using uW zs j (by omega)
 have hx:=hz x (by rw[HX.out,List.getD_eq_getElem?_getD,List.getElem?_eq_getElem (by omega)];exact List.getElem_mem _);have ak:∀ w1:World,(Instr.index 116 (.agg arr.toArray) (.int .i64 j)).run prog w1=.ok (.int .u8 x) w1:=fun w1=>YZ 116 5 20 _ _ j _ w1 underlying116 size5 _ underlying5 rfl a7 hg;obtain⟨p,HP⟩:=nn_ (x / 16);obtain⟨q,HQ⟩:=nn_ (x % 16)
 have hp:x / 16=p:=HP.out.symm;have hq:bits .and .u8 x 15=q:=by rw[HQ.out];exact and15 x hx.1 hx.2
 have ah:∀ w1:World,(Instr.index 9 (.string { data:=#[48,49,50,51,52,53,54,55,56,57,97,98,99,100,101,102] }) (.int .u8 p)).run prog w1=.ok (.int .u8 (dig p)) w1:=fun w1=>JQ p w1 (by omega) (by omega)
 have ai:∀ w1:World,(Instr.index 9 (.string { data:=#[48,49,50,51,52,53,54,55,56,57,97,98,99,100,101,102] }) (.int .u8 q)).run prog w1=.ok (.int .u8 (dig q)) w1:=fun w1=>JQ q w1 (by rw[HQ.out];omega) (by rw[HQ.out];omega);obtain⟨dp,Q⟩:=nn_ (dig p);obtain⟨dq,V⟩:=nn_ (dig q);rw[<-Q.out] at ah;rw[<-V.out] at ai;go_wp2
 go_region_law ((refine step_append_lies _ (by rfl) _ _ _ (by rfl) w.heap.size 5 i5 (.int .u8 0) 1 1 underlying82 hi a8 ac ad rfl (by omega) (.slice (some ⟨g,0,none⟩) (2*j) J) (2*j) ((hexOf (zs.take j)).map (Value.int .u8)) (by rfl) (by exact D.alloc _) ⟨wr.heap.size,0,none⟩ 2 2 [.int .u8 dp,.int .u8 dq] (by rfl) (by rfl) (by intro j u I;match j,I with | 0,I=>simp at I;subst I;simp[Addr.add] | 1,I=>simp at I;subst I;simp[Addr.add]) (by intro u hu;simp at hu;rcases hu with rfl | rfl <;> rfl) (by omega) (by unfold maxLen;omega) (by omega) (by have:=HB.out.size;simp;omega) (wr.heap.size+1) (by simp) ?_;intro g2 Y w3 G A ag a7))
 all_goals
  have ae:Hid (Below w.heap.size w w3):=ZW HB.out (Wz8 _) (QK wr _ none) A (fun k hk=>(yu D k hk).1);have HO:Hid (w3.ownsRow w.heap.size 5 1 (.slice (some ⟨g2,0,none⟩) (2*(j+1)) Y) (2*(j+1)) ((hexOf (zs.take (j+1))).map (Value.int .u8))):=by
   show World.ownsRow _ _ _ _ _ _ _;rw[GQ zs j (by omega),Cx,List.map_append,<-HX.out,<-HP.out,<-HQ.out,WzK,WzK,WzV,<-Q.out,<-V.out];exact G
  clear G A ag D;go_wp2;go_roundg (20-(j+1));case measure=>omega
  case rel=>exact⟨j+1,g2,Y,by omega,rfl,by go_num,rfl,HO.out,ae⟩
theorem zkK (n:Int) (h0:0<=n) (h:n<256):IntKind.u8.wrap n=n:=by
 obtain⟨m,rfl⟩:=Wz0 h0;have:∀ m:Nat,m<256->IntKind.u8.wrap (m:Int)=m:=by decide +kernel
 exact this m (by omega)
end Go.Proofs.YtdnphaganajejaaGreatDoor.Hx
namespace Go.Proofs.YtdnphaganajejaaGreatDoor
open Go.Proofs.Tryz
open Go.RowKit
def Tab (w:World):Prop:=Lib.TabIs prog w "internal/strconv.uint64pow10" .u64 Lib.pow10Tab
theorem qvJ:prog.globalNamed "internal/strconv.uint64pow10" = some 3:=by kernel_rfl
theorem Tab.below {w w':World} (h:Tab w) (hb:Below w.heap.size w w'):Tab w':=by
 have D:=qvJ
 unfold Tab Lib.TabIs World.var? at h ⊢;rw[D] at h ⊢;simp only[Option.bind_some] at h ⊢;have A:3<w.heap.size:=by
  rcases Wy4 3 w.heap.size with j | j
  ·exact j
  rw[Array.getElem?_eq_none j] at h;cases h
 rw[hb.block 3 A];exact h
theorem EV:∀ (n m:Nat),m<10 ^ (n+1)->(Lib.decDigits m).length<=n+1
 | 0,m,h=>by rw[Lib.decDigits,dif_pos (by simpa using h)];simp
 | n+1,m,h=>by
  rw[Lib.decDigits];split
  ·simp
  have:=EV n (m / 10) (by rw[Nat.pow_succ] at h;omega);simp;omega
theorem yZ (x y:List UInt8):(⟨x.toArray⟩:ByteArray) ++ ⟨y.toArray⟩=⟨(x++y).toArray⟩:=by
 rw[ByteArray.mk_append_mk]
theorem qvK (i:Nat) (hi:i<4):∃ f:FuncId,(∀ w,(Instr.index 327 (.agg Z8) (.int .i64 i)).run prog w=.ok (.agg #[.func (.func f) #[] #[],.int .u32 (ki (20*i))]) w)/\
  (∀ (j:Nat) (b c d:Int) (w:World),j<20->U b->U c->U d->Calls prog f #[.int .u32 b,.int .u32 c,.int .u32 d] w fun e w'=>e=.returned (.int .u32 (fi (20*i+j) b c d))/\w=w')/\(f=238 ∨ f=239 ∨ f=240):=by
 match i,hi with
 | 0,_=>exact⟨238,kind0,fun j b c d w G h A D=>by rw[fi,if_pos (by omega)];exact Dy b c d w h A D,.inl rfl⟩
 | 1,_=>exact⟨239,kind1,fun j b c d w G h A D=>by rw[fi,if_neg (by omega),if_pos (by omega)];exact J6 b c d w h A D,.inr (.inl rfl)⟩
 | 2,_=>exact⟨240,kind2,fun j b c d w G h A D=>by rw[fi,if_neg (by omega),if_neg (by omega),if_pos (by omega)];exact NJ b c d w h A D,.inr (.inr rfl)⟩
 | 3,_=>exact⟨239,kind3,fun j b c d w G h A D=>by rw[fi,if_neg (by omega),if_neg (by omega),if_neg (by omega)];exact J6 b c d w h A D,.inr (.inl rfl)⟩
theorem zj (B:Nat) (w:World) (n:Nat):Below B w (w.drewN n):=⟨rfl,rfl,rfl,Wz8 _,fun _ _=>rfl⟩
theorem same {P:Program} {f:FuncId} {args:Array Value} {w:World} {v:Value} (h:Calls P f args w fun e w'=>e=.returned v/\w=w'):Calls P f args w fun e w'=>e=.returned v/\w'=w:=h.mono fun _ _ h=>⟨h.1,h.2.symm⟩
theorem zyz (s:S5) (zs:List Int) (w:World) (hs:s.ok) (hl:zs.length=64) (hz:IsB zs) :
  Calls prog 196 #[.agg (row .u32 s.l).toArray,.agg (row .u8 zs).toArray] w fun e w'=>e=.returned (.agg (row .u32 (comp s zs).l).toArray)/\Below w.heap.size w w':=by
 have Y:(prog.info? 299).map (·.size)=some (row .u8 zs).length:=by rw[zv,hl];exact size299
 obtain⟨arr,HA⟩:=nn_ (row .u8 zs);rw[<-HA.out];rw[<-HA.out] at Y;have aW:arr.toArray.size=64:=by rw[HA.out,vJ];exact hl
 obtain⟨kv,HK⟩:=nn_ Z8;obtain⟨W,HW⟩:=nn_ (Xj zs);have ao:W.length=80:=by rw[HW.out];exact DZ zs
 have aH:IsW W:=by rw[HW.out];exact DQ zs hz
 obtain⟨a0,b0,c0,D,G⟩:=s;obtain⟨ap,ar,au,av,aw⟩:=hs;have HS:Hid (S5.ok ⟨a0,b0,c0,D,G⟩):=⟨ap,ar,au,av,aw⟩;simp only[S5.l,row,WzK,WzV];have H3:Hid (_/\_):=U9 w (.cells #[.int .u32 a0,.int .u32 b0,.int .u32 c0,.int .u32 D,.int .u32 G] 298) (.cells arr.toArray 299) (.cells #[.int .u32 0,.int .u32 0,.int .u32 0,.int .u32 0,.int .u32 0] 298)
 have ae:Hid (Below w.heap.size w (((w.alloc (.cells #[.int .u32 a0,.int .u32 b0,.int .u32 c0,.int .u32 D,.int .u32 G] 298)).alloc (.cells arr.toArray 299)).alloc (.cells #[.int .u32 0,.int .u32 0,.int .u32 0,.int .u32 0,.int .u32 0] 298))):=(((Below.refl _ w).alloc (Wz8 _) _).alloc (by simp) _).alloc (by simp;omega) _;obtain⟨zr,HZ⟩:=nn_ ((row .u32 z80).toArray)
 have aU:=zqw;rw[<-HZ.out] at aU;go_enter func196,ntmps196;go_wp2_with (refine wpList_load_mid rfl 299 _ rfl (w.heap.size+1) 0 rfl arr _ (zw H3.out.1.2) underlying299 rfl Y ?_)
 rw[HA.out];refine(DX zs _ hl hz).mono ?_;rintro e w1 ⟨rfl,hb⟩;rw[<-HA.out,<-HW.out];rw[<-HA.out] at hb;have M:Below (w.heap.size+1+1+1) (((w.alloc (.cells #[.int .u32 a0,.int .u32 b0,.int .u32 c0,.int .u32 D,.int .u32 G] 298)).alloc (.cells arr.toArray 299)).alloc (.cells #[.int .u32 0,.int .u32 0,.int .u32 0,.int .u32 0,.int .u32 0] 298)) w1:=by simpa using hb
 have aR:w.heap.size+1+1+1<=w1.heap.size:=by simpa using M.size
 have F0:Hid (w1.heap[w.heap.size]? = some (.cells #[.int .u32 a0,.int .u32 b0,.int .u32 c0,.int .u32 D,.int .u32 G] 298 (0,0))):=(M.block _ (by omega)).trans H3.out.1.1;have F2:Hid (w1.heap[w.heap.size+1+1]? = some (.cells #[.int .u32 0,.int .u32 0,.int .u32 0,.int .u32 0,.int .u32 0] 298 (0,0))):=(M.block _ (by omega)).trans H3.out.2
 have ag:Hid (Below w.heap.size w w1):=ae.out.trans (M.mono (by omega));clear hb M H3 ae;have HT:Hid ((w1.alloc (.cells zr 322)).there w1.heap.size 0 (row .u32 W).toArray.size):=hid (by rw[vJ,ao,HZ.out];exact yW (heap_alloc_new w1 _) (by simp[z80]))
 have T2:Hid ((prog.info? 322).map (·.size)=some (row .u32 W).toArray.size):=hid (by rw[vJ,ao];exact size322);have T3:Hid ((row .u32 W).toArray.all (·.oneCell')=true):=all_oneCell_toArray (yK _ _);obtain⟨w2,J⟩:=nn_ ((w1.alloc (.cells zr 322)).setCells w1.heap.size 0 (row .u32 W).toArray.toList)
 have aj:Hid (w2.rangeAt w1.heap.size 0 (row .u32 W)):=hid (by rw[J.out];exact World.rangeAt_setCells_same _ w1.heap.size 0 _ (by have:=HT.out;simpa using this));have K:Hid (Below w1.heap.size w1 w2):=hid (by rw[J.out];exact zW (Wz8 _) _ _ _ _ ((Below.refl _ _).alloc (Wz8 _) _))
 have aS:w2.heap.size=w1.heap.size+1:=by rw[J.out,vK];simp
 have L:Hid (w1.heap.size<w2.heap.size):=hid (by omega);clear aS;have V:Hid (w2.heap[w.heap.size]? = some (.cells #[.int .u32 a0,.int .u32 b0,.int .u32 c0,.int .u32 D,.int .u32 G] 298 (0,0))):=(K.out.block _ (by omega)).trans F0.out
 have G2:Hid (w2.heap[w.heap.size+1+1]? = some (.cells #[.int .u32 0,.int .u32 0,.int .u32 0,.int .u32 0,.int .u32 0] 298 (0,0))):=(K.out.block _ (by omega)).trans F2.out;have r0:w2.cell? ⟨w.heap.size,0,none⟩=some (.int .u32 a0):=by rw[cell_of_row w2 w.heap.size 0 _ 298 _ V.out];rfl
 have r1:w2.cell? ⟨w.heap.size,1,none⟩=some (.int .u32 b0):=by rw[cell_of_row w2 w.heap.size 1 _ 298 _ V.out];rfl
 have r2:w2.cell? ⟨w.heap.size,2,none⟩=some (.int .u32 c0):=by rw[cell_of_row w2 w.heap.size 2 _ 298 _ V.out];rfl
 have r3:w2.cell? ⟨w.heap.size,3,none⟩=some (.int .u32 D):=by rw[cell_of_row w2 w.heap.size 3 _ 298 _ V.out];rfl
 have r4:w2.cell? ⟨w.heap.size,4,none⟩=some (.int .u32 G):=by rw[cell_of_row w2 w.heap.size 4 _ 298 _ V.out];rfl
 go_wp2_with (refine wpList_store_mid rfl 322 _ _ rfl w1.heap.size 0 (row .u32 W).toArray rfl rfl HT.out T2.out T3.out ?_;rw[<-J.out])
 go_quiet (fail);go_wp2_with fail
 refine(Oz _).mono ?_;rintro e w3 ⟨rfl,hb⟩;have I:Hid (Below w2.heap.size w2 w3):=(zj _ w2 nq).trans hb;clear hb r0 r1 r2 r3 r4;have aB:w2.heap.size<=w3.heap.size:=I.out.size;have aG:Hid (w3.rangeAt w1.heap.size 0 (row .u32 W)):=fun j v hv=>(I.out.cell (p:=⟨w1.heap.size,0+j,none⟩) L.out).trans (aj.out j v hv)
 have am:Hid (w1.heap.size<w3.heap.size):=Nat.lt_of_lt_of_le L.out aB;have aC:Hid (Below w.heap.size w w3):=(ag.out.trans (K.out.mono (by omega))).trans (I.out.mono (by have:=K.out.size;omega))
 have V:Hid (w3.heap[w.heap.size]? = some (.cells #[.int .u32 a0,.int .u32 b0,.int .u32 c0,.int .u32 D,.int .u32 G] 298 (0,0))):=(I.out.block _ (by have:=L.out;omega)).trans V.out;have G2:Hid (w3.heap[w.heap.size+1+1]? = some (.cells #[.int .u32 0,.int .u32 0,.int .u32 0,.int .u32 0,.int .u32 0] 298 (0,0))):=(I.out.block _ (by have:=L.out;omega)).trans G2.out
 have aY:w.heap.size+1+1<w3.heap.size:=by have:=am.out;omega
 clear I K J ag F0 F2 HT aj L aB aR;rw[<-HK.out];go_wp2;go_loopg [6,7,8,9,10,29] 4 (fun k a b c d e i wr=>∃ (j:Nat) (s:S5),j<=4/\k=4-j/\i=.int .i64 j/\a=.int .u32 s.a/\b=.int .u32 s.b/\c=.int .u32 s.c/\d=.int .u32 s.d/\e=.int .u32 s.e/\Hid (s=rds W ⟨a0,b0,c0,D,G⟩ (20*j))/\Hid (Below w3.heap.size w3 wr))
 case atStart=>exact⟨0,⟨a0,b0,c0,D,G⟩,by omega,rfl,rfl,rfl,rfl,rfl,rfl,rfl,rfl,Below.refl _ _⟩
 obtain⟨h,rfl⟩:∃ h,h=wr:=⟨_,rfl⟩;obtain⟨j,⟨a,b,c,d,e⟩,hj,hk,rfl,rfl,rfl,rfl,rfl,rfl,A,HB⟩:=hrel;by_cases aO:j<4;rotate_left
 ·obtain rfl:j=4:=by omega
  have aA:w3.heap.size<=h.heap.size:=HB.out.size;have K0:Hid (h.heap[w.heap.size]? = some (.cells #[.int .u32 a0,.int .u32 b0,.int .u32 c0,.int .u32 D,.int .u32 G] 298 (0,0))):=(HB.out.block _ (by omega)).trans V.out;have K2:Hid (h.there (w.heap.size+1+1) 0 5):=kZ ((HB.out.block _ (by omega)).trans G2.out) rfl
  have r0:h.cell? ⟨w.heap.size,0,none⟩=some (.int .u32 a0):=by rw[cell_of_row h w.heap.size 0 _ 298 _ K0.out];rfl
  have r1:h.cell? ⟨w.heap.size,1,none⟩=some (.int .u32 b0):=by rw[cell_of_row h w.heap.size 1 _ 298 _ K0.out];rfl
  have r2:h.cell? ⟨w.heap.size,2,none⟩=some (.int .u32 c0):=by rw[cell_of_row h w.heap.size 2 _ 298 _ K0.out];rfl
  have r3:h.cell? ⟨w.heap.size,3,none⟩=some (.int .u32 D):=by rw[cell_of_row h w.heap.size 3 _ 298 _ K0.out];rfl
  have r4:h.cell? ⟨w.heap.size,4,none⟩=some (.int .u32 G):=by rw[cell_of_row h w.heap.size 4 _ 298 _ K0.out];rfl
  have HF:Hid (comp ⟨a0,b0,c0,D,G⟩ zs=⟨(a0+a) % 4294967296,(b0+b) % 4294967296,(c0+c) % 4294967296,(D+d) % 4294967296,(G+e) % 4294967296⟩):=hid (by unfold comp;rw[<-HW.out,<-A.out];rfl);have aD:Hid (Below w.heap.size w h):=aC.out.trans (HB.out.mono (by omega));obtain⟨ha,hb,hc,hd,he⟩:S5.ok ⟨a,b,c,d,e⟩:=by rw[A.out];exact DJ W _ HS.out _
  obtain⟨aI,aJ⟩:=ha;obtain⟨aZ,b2⟩:=hb;obtain⟨b6,b7⟩:=hc;obtain⟨b9,be⟩:=hd;obtain⟨aK,aL⟩:=he;obtain⟨bp,bq⟩:=ap;obtain⟨br,ib2⟩:=ar;obtain⟨bu,bw⟩:=au;obtain⟨bz,bA⟩:=av;obtain⟨bB,bC⟩:=aw;go_wp2_with (refine wpList_store_mid rfl 298 _ _ rfl (w.heap.size+1+1) 0 _ rfl rfl K2.out size298 (by simp[Value.oneCell']) ?_)
  refine bodyPost_ret (yq Tryz.results196 _ _ (w.heap.size+1+1) _ _ rfl (World.rangeAt_setCells_same h (w.heap.size+1+1) 0 _ K2.out) underlying298 rfl size298) rfl ⟨?_,zW (by omega) _ _ _ _ aD.out⟩;rw[HF.out]
 obtain⟨f,Z,ad,hf⟩:=qvK j aO;rw[<-HK.out] at Z;obtain⟨kq,a7⟩:=nn_ (ki (20*j));rw[<-a7.out] at Z;have aA:w3.heap.size<=h.heap.size:=HB.out.size;obtain⟨m,HM⟩:=nn_ (20*j);have ax:m<=60:=by have:=HM.out;omega
 have bh:(j:Int)*20=(m:Int):=by have:=HM.out;omega
 have aX:((j:Int)+1)*20=((m+20:Nat):Int):=by have:=HM.out;omega
 have HT:Hid ((h.alloc (.cells #[.nilFunc,.int .u32 0] 326)).there h.heap.size 0 2):=kZ (heap_alloc_new h _) rfl;obtain⟨w4,ac⟩:=nn_ ((h.alloc (.cells #[.nilFunc,.int .u32 0] 326)).setCells h.heap.size 0 (#[.func (.func f) #[] #[],.int .u32 kq] : Array Value).toList)
 have ai:Hid (w4.rangeAt h.heap.size 0 [.func (.func f) #[] #[],.int .u32 kq]):=hid (by rw[ac.out];exact World.rangeAt_setCells_same _ h.heap.size 0 _ HT.out);have k0:w4.cell? ⟨h.heap.size,0,none⟩=some (.func (.func f) #[] #[]):=ai.out 0 _ rfl;have k1:w4.cell? ⟨h.heap.size,1,none⟩=some (.int .u32 kq):=ai.out 1 _ rfl
 have ak:Hid (Below h.heap.size h w4):=hid (by rw[ac.out];exact zW (Wz8 _) _ _ _ _ ((Below.refl _ _).alloc (Wz8 _) _));have ah:Hid (Below w3.heap.size w3 w4):=HB.out.trans (ak.out.mono aA)
 have aE:Hid (∀ i,i<80->w4.cell? ⟨w1.heap.size,i,none⟩=some (.int .u32 (W.getD i 0))):=fun i hi=>(ah.out.cell (p:=⟨w1.heap.size,i,none⟩) am.out).trans (by have:=aG.out i _ (uW .u32 W i (by omega));rwa [Wzz] at this);clear ak HB;have aP:=fun w=>zkw w1.heap.size m w ax;obtain⟨cp,aF⟩:=nn_ (80-m:Nat);rw[<-aF.out] at aP;rcases hf with rfl | rfl | rfl
 all_goals
  go_wp2_with (refine wpList_store_mid rfl 326 _ _ rfl h.heap.size 0 _ rfl rfl HT.out size326 (by simp[Value.oneCell']) ?_;rw[<-ac.out])
  go_loopg [6,7,8,9,10,40] 20 (fun k a b c d e i wr=>∃ (n:Nat) (s:S5),n<=20/\k=20-n/\i=.int .i64 n/\a=.int .u32 s.a/\b=.int .u32 s.b/\c=.int .u32 s.c/\d=.int .u32 s.d/\e=.int .u32 s.e/\Hid (s=rds W ⟨a0,b0,c0,D,G⟩ (m+n))/\Hid (∃ q,wr=w4.drewN q));case atStart=>exact⟨0,⟨a,b,c,d,e⟩,by omega,rfl,rfl,rfl,rfl,rfl,rfl,rfl,hid (by rw[Nat.add_zero,HM.out];exact A.out),⟨0,rfl⟩⟩
  case round =>
   clear A;obtain⟨n,⟨a,b,c,d,e⟩,hn,bi,rfl,rfl,rfl,rfl,rfl,rfl,A,HQ⟩:=hrel;by_cases a6:n<20;rotate_left
   ·obtain rfl:n=20:=(by omega);go_wp2;go_roundg (4-(j+1));case measure=>omega
    obtain⟨q,Q⟩:=HQ.out;exact⟨j+1,⟨a,b,c,d,e⟩,by omega,rfl,by go_num,rfl,rfl,rfl,rfl,rfl,hid (by rw[A.out,HM.out];rfl),hid (by rw[Q];exact ah.out.trans (zj _ _ _))⟩
   obtain⟨ha,hb,hc,hd,he⟩:S5.ok ⟨a,b,c,d,e⟩:=(by rw[A.out];exact DJ W _ HS.out _);obtain⟨x,HX⟩:=nn_ (W.getD (m+n) 0);have hx:U x:=(by rw[HX.out];exact aH.at _);have b8:wr.cell? ⟨w1.heap.size,m+n,none⟩=some (.int .u32 x):=(by obtain⟨q,Q⟩:=HQ.out;rw[Q,HX.out];exact aE.out _ (by omega))
   have aV:wr.cell? ⟨h.heap.size,0,none⟩=w4.cell? ⟨h.heap.size,0,none⟩:=(by obtain⟨q,Q⟩:=HQ.out;rw[Q];rfl);have bD:wr.cell? ⟨h.heap.size,1,none⟩=some (.int .u32 kq):=(by obtain⟨q,Q⟩:=HQ.out;rw[Q];exact k1);rw[k0] at aV;have O:=fun w=>same (ad n b c d w a6 hb hc hd);rw[<-HM.out] at O;obtain⟨fv,HF⟩:=nn_ (fi (m+n) b c d)
   have aM:U fv:=(by rw[HF.out];exact fi_bd _ _ _ _);rw[<-HF.out] at O;obtain⟨t5,a8⟩:=nn_ (E9 a);have aQ:U t5:=(by rw[a8.out];exact zqq a);have az:=fun w=>same (rot5 a w ha);rw[<-a8.out] at az;have ay:=fun w=>rot30 b w hb;have aN:U kq:=(by rw[a7.out];exact ki_bd _);obtain⟨aI,aJ⟩:=ha;obtain⟨aK,aL⟩:=he;obtain⟨hx1,bo⟩:=hx;obtain⟨bf,bg⟩:=aM
   obtain⟨bm,bn⟩:=aQ;obtain⟨bj,bk⟩:=aN;go_wp2;go_quiet (first | (go_at_call 223;exact Calls.quiet_of_same (az _)) | (go_at_call 238;exact Calls.quiet_of_same (O _)) | (go_at_call 239;exact Calls.quiet_of_same (O _)) | (go_at_call 240;exact Calls.quiet_of_same (O _)));go_wp2_with (go_at_call 223;refine(ay _).mono ?_;rintro e w' ⟨rfl,rfl⟩)
   go_roundg (20-(n+1));case measure=>omega
   case rel =>
   refine⟨n+1,rd W (m+n) ⟨a,b,c,d,e⟩,by omega,rfl,by go_num,?_,rfl,rfl,rfl,rfl,hid ?_,?_⟩
   ·simp only[rd];rw[<-a8.out,<-HF.out,<-HX.out,HM.out,zku j n a6,<-a7.out]
   ·rw[A.out];rfl
   obtain⟨q,Q⟩:=HQ.out;exact⟨q+nq,by rw[Q,World.drewN_drewN]⟩
theorem Ov {P:Program} {A:Array Oper} {o:Oper} {a:Act} {w:World} {K:Act->World->Prop} {Q:Exit->Act->World->Prop} {E:Prop} (D:o.guard=none) (s x:Operand) (t:TypeId) (sv xv v:Value) (w2:World)
  (G:o.op=.call { callee:=.builtin .copy,args:=#[s,x],argTypes:=#[t,t] }) (hs:a.eval s=sv) (hx:a.eval x=xv) (j:(Builtin.copy_ #[t,t] o.type #[sv,xv]).run P w=.ok v w2) (h:K (a.put o.dst v) w2) :
  if Region.wanted o (yielded A a.tmps)=true then Oper.wp P o a w K Q else E:=by
 have I:Region.wanted o (yielded A a.tmps)=true:=by simp[Region.wanted,D]
 rw[if_pos I];unfold Oper.wp execOp;simp only[G,resolve,invoke,builtin,Sem.run_bind,Sem.run_pure,Result.andThen_ok,List.map_toArray,WzK,WzV,hs,hx,j];exact h
end Go.Proofs.YtdnphaganajejaaGreatDoor
