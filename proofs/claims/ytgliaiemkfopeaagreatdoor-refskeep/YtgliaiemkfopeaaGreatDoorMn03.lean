import Derived.Test.YtgliaiemkfopeaaGreatDoorMn01
import Derived.Laws.RangeAny
import Derived.Laws.Runes
import Derived.WalkMore
import Derived.Lib.SlBytesRow
import Derived.Shelf.LaysM
import Derived.Shelf.LaysC
import Derived.Shelf.Strconv.Itoa3
import Derived.Shelf.Strconv.Itoa4
import Derived.Shelf.Strings.Search3
import Derived.Shelf.Strings.SlTrimAscii
import Derived.Shelf.Strings.IndexAnyAll
import Derived.Shelf.Strings.Prefix
import Derived.Shelf.Bytes.SlEqualAll
import Derived.Shelf.Strconv.ErrVarParseInt
import Derived.Shelf.Strconv.ErrVarAll
import Derived.Test.YtgliaiemkfopeaaGreatDoorProg
import Derived.Lib.OthersKept
import Derived.Lib.TrimUEq
import Derived.Lib.SpaceUEq
import Derived.Lib.QuoteLoop
import Derived.Lib.IndexMore
import Derived.Lib.Strings
import Derived.Lib.ItoaNum
import Derived.Shelf.Strings.OnBuilder
set_option linter.unusedSimpArgs false
set_option linter.unusedVariables false
set_option maxRecDepth 20000
set_option maxHeartbeats 4000000
namespace Go.Proofs.YtgliaiemkfopeaaGreatDoor
open Go.RowKit
theorem Zv (w:World) (s:ByteArray) (i:Nat):Below w.heap.size w (w.iter s i):=(Below.refl _ w).alloc (Nat.le_refl _) _
def Asc (s:ByteArray):Prop := ∀ j (h:j<s.size),(s[j]'h).toNat<128
set_option maxHeartbeats 1000000 in
theorem indexRune_err (s:ByteArray) (hs:Asc s) (h8:s.size<=100) (w:World):Calls Tryz.prog 145 #[.string s,.int .i32 65533] w fun e w'=>e=.returned (.int .i64 (-1))/\Below w.heap.size w w':=by
 have HS:Hid (Asc s):=hs
 clear hs
 go_enter Tryz.func145,Tryz.ntmps145
 go_wp2_with fail
 go_loopg [5,6] s.size (fun g _ _ wx=>∃ i:Nat,i+g=s.size/\wx=w.iter s i)
 case atStart=>exact⟨0,by omega,rfl⟩
 case round =>
  obtain⟨i,hig,rfl⟩:=hrel
  cases gk with
  | zero =>
   obtain rfl:i=s.size:=by omega
   have hnx:=fun ty=>run_next_end (P:=Tryz.prog) w s s.size ty (Nat.lt_irrefl _)
   go_wp2
   go_ret
   exact⟨rfl,Zv _ _ _⟩
  | succ g =>
   have hi:i<s.size:=by omega
   obtain⟨x,hx⟩:∃ x:UInt8,s[i]'hi=x:=⟨_,rfl⟩
   have hx128:x.toNat<128:=by rw[<-hx];exact HS.out i hi
   have hnx:=fun ty=>run_next_ascii (P:=Tryz.prog) w s i ty hi (by rw[hx];exact hx128)
   rw[hx] at hnx
   have hne:¬ (x.toNat:Int)=65533:=by omega
   have hne2:((x.toNat:Int) == 65533)=false:=by simpa using hne
   go_wp2
   go_roundg g
   case measure=>omega
   case rel=>exact⟨i+1,by omega,rfl⟩
theorem enter209 (v1 v2:Value) (w:World):(callFunc 177 #[v1,v2]).run Tryz.prog w=.ok (.enter 177 #[v1,v2]) w:=by kernel_rfl
theorem noByte (l:List UInt8) (c:UInt8) (h:∀ x ∈ l,x.toNat<128) (hc:128<=c.toNat):Lib.indexByte l c = -1:=by
 induction l with
 | nil=>rfl
 | cons b l ih =>
  have hb:=h b (by simp)
  have hbc:(b == c)=false:=beq_eq_false_iff_ne.2 (fun e=>by rw[e] at hb;omega)
  unfold Lib.indexByte
  rw[hbc,ih (fun x hx=>h x (by simp[hx]))]
  rfl
set_option maxRecDepth 1000000 in
set_option maxHeartbeats 1000000 in
theorem indexRune_high (s:ByteArray) (hs:Asc s) (h8:s.size<=100) (r:Nat) (h1:128<=r) (hv:Utf8.valid (r:Int)=true) (hne:r ≠ 65533) (w:World):Calls Tryz.prog 145 #[.string s,.int .i32 r] w fun e w'=>e=.returned (.int .i64 (-1))/\Below w.heap.size w w':=by
 have HS:Hid (Asc s):=hs
 clear hs
 have a1:¬ (r:Int)<128:=by omega
 have a2:¬ (r:Int)=65533:=by omega
 have a3:((r:Int) == 65533)=false:=by simpa using a2
 have hvr:Lib.validRune (r:Int)=true:=by
  unfold Utf8.valid at hv
  unfold Lib.validRune
  simp at hv ⊢
  omega
 obtain⟨e1,e2,e3⟩:=encode_facts (r:Int) hv (by omega)
 obtain⟨S,HS2⟩:∃ S:ByteArray,Utf8.encode (r:Int)=S:=⟨_,rfl⟩
 have hl3:S.size-1<S.size:=by rw[HS2] at e1;omega
 obtain⟨y,hy⟩:∃ y:UInt8,S[S.size-1]'hl3=y:=⟨_,rfl⟩
 have HY:Hid (128<=y.toNat):=hid (by
  rw[<-hy]
  have:=e3 (by rw[HS2];exact hl3)
  subst HS2
  exact this)
 rw[HS2] at e1 e2
 clear e3
 go_enter Tryz.func145,Tryz.ntmps145
 go_wp2_with (go_at_call 178;refine(Any.utf8_ValidRune Tryz.lays119 _ _).mono ?_;rintro ev w' ⟨rfl,rfl⟩;rw[hvr])
 obtain⟨L,HL⟩:=nm_ (S.size-1)
 have hLi:(S.size:Int)-1=(L:Int):=by have:=HL.out;omega
 have hL:1<=L/\L<=3:=by have:=HL.out;omega
 go_step3
 go_wp2_with fail
 go_loopg [9,10] 1 (fun g v u wr=>g=1/\v=.int .i64 L/\u=.int .i64 0/\wr=w')
 case atStart=>exact⟨rfl,rfl,rfl,rfl⟩
 case round =>
  obtain⟨rfl,rfl,rfl,hwr⟩:=hrel
  have hwr':=hwr.symm
  subst hwr'
  by_cases hlt:L<s.size
  ·have hlti:(L:Int)<s.size:=by omega
   obtain⟨x,hx⟩:∃ x:UInt8,s[L]'hlt=x:=⟨_,rfl⟩
   have hx128:x.toNat<128:=by rw[<-hx];exact HS.out L hlt
   have hLS:L<S.size:=by have:=HL.out;omega
   have hyL:S[L]'hLS=y:=by have e:=HL.out;subst e;exact hy
   have hxy:¬ (x.toNat:Int)=(y.toNat:Int):=by have:=HY.out;omega
   have HIB:Hid (∀ (t:ByteArray) (W:World),t=s.extract (L+1) s.size->Calls Tryz.prog 177 #[.string t,.int .u8 (y.toNat:Int)] W fun e w'=>e=.returned (.int .i64 (-1))/\w'=W):=fun t W ht=>by
    refine(Any.strings_IndexByte Tryz.lays137 t (y.toNat:Int) W).mono ?_
    rintro e w'' ⟨rfl,hw''⟩
    refine⟨?_,hw''⟩
    rw[noByte]
    ·intro z hz
     rw[ht] at hz
     have hz':z ∈ s.data.toList:=by
      rw[Lib.extract_data] at hz
      exact List.mem_of_mem_drop (List.mem_of_mem_take hz)
     obtain⟨q,hq,rfl⟩:=List.getElem_of_mem hz'
     exact HS.out q (by rw[Lib.size_eq];exact hq)
    ·have:=HY.out
     simpa using this
   have hxy2:((x.toNat:Int) != (y.toNat:Int))=true:=by simpa using hxy
   obtain⟨T,HT⟩:=nm_ (s.extract (L+1) s.size)
   obtain⟨M,HM⟩:=nm_ (L+1)
   have hwr:IntKind.i64.wrap ((L:Int)+1)=(M:Int):=by
    rw[<-HM.out,show ((L:Int)+1)=((L+1:Nat):Int) by omega]
    exact wrap_i64 (L+1) (by omega)
   have hMi:(M:Int)<=s.size:=by have:=HM.out;omega
   have hME:s.extract M s.size=T:=by rw[<-HM.out];exact HT.out
   have hL3:L<=3:=hL.2
   go_wp2
   go_step3
   go_wp2
   refine wp_region_held_drew (S:=fun _=>True) (by kernel_rfl) trivial (fun hHeld=>?_)
   refine tV (i:=0) hHeld ?_
   try simp only[Act.put,sL]
   refine tV (i:=1) hHeld ?_
   try simp only[Act.put,sL]
   refine tV (i:=2) hHeld ?_
   try simp only[Act.put,sL]
   refine tV (i:=3) hHeld ?_
   try simp only[Act.put,sL]
   refine tV (i:=4) hHeld ?_
   try simp only[Act.put,sL]
   refine tV (i:=5) hHeld ?_
   try simp only[Act.put,sL]
   refine tV (i:=6) hHeld ?_
   try simp only[Act.put,sL]
   refine wpAnyH_done (by kernel_rfl) ?_ _
   go_wp2
   clear hHeld
   refine wp_region_held_drew (S:=fun _=>True) (by kernel_rfl) trivial (fun hHeld=>?_)
   refine tV (i:=0) hHeld ?_
   try simp only[Act.put,sL]
   refine tV (i:=1) hHeld ?_
   try simp only[Act.put,sL]
   refine tV (i:=2) hHeld ?_
   try simp only[Act.put,sL]
   refine tV (i:=3) hHeld ?_
   try simp only[Act.put,sL]
   refine tV (i:=4) hHeld ?_
   try simp only[Act.put,sL]
   refine tV (i:=5) hHeld ?_
   try simp only[Act.put,sL]
   refine tV (i:=6) hHeld ?_
   try simp only[Act.put,sL]
   refine wpAnyH_ready (rs:=[7]) (by kernel_rfl) (by simp) ?_
   refine xj rfl (fun KK hKK=>?_) AllReadyH.nil
   refine qJ (by rfl) 177 [.tmp 37,.tmp 40] _ [.string T,.int .u8 (y.toNat:Int)] _ (by rfl) (by rfl) (enter209 _ _) (HIB.out _ _ HT.out.symm) ?_
   rintro e w1 ⟨rfl,rfl⟩
   refine⟨_,rfl,?_⟩
   refine hKK.out _ _ hHeld (fun hHeld2=>?_)
   clear hKK KK
   try simp only[Act.put,sL]
   refine tV (i:=8) hHeld ?_
   try simp only[Act.put,sL]
   refine wpAnyH_done (by kernel_rfl) ?_ _
   go_wp2
   simp only[Exit.inBlock,Exit.then,Exit.noGoto_ret]
   go_ret
   exact⟨rfl,⟨rfl,rfl,rfl,Nat.le_refl _,fun _ _=>rfl⟩⟩
  ·have hlti:¬ (L:Int)<s.size:=by omega
   go_wp2
   go_ret
   exact⟨rfl,Below.refl _ _⟩
end Go.Proofs.YtgliaiemkfopeaaGreatDoor
namespace Go.Proofs
open Go.Shelf
def Tryz.lays171_ren:Go.Shelf.Ren:=⟨fun | 171=>215 | 243=>236 | 246=>149 | 283=>181 | 284=>182 | 285=>183 | 286=>184 | 129=>119 | 317=>206 | 318=>207 | 319=>208 | 320=>209 | 337=>231 | 338=>232 | n=>n,fun | 3=>3 | 9=>9 | 2=>2 | 4=>4 | 171=>283 | 0=>0 | 53=>220 | 37=>60 | 5=>5 | 173=>285 | 212=>310 | 51=>218 | 20=>20 | 213=>311 | 46=>39 | 232=>338 | 233=>294 | n=>n,fun | 17=>3 | 18=>8 | 19=>9 | n=>n⟩
theorem Tryz.lays171:Go.Proofs.Lays.n171 Tryz.prog Tryz.lays171_ren:={
 mixed:=by kernel_rfl
 f129:=Tryz.func119.trans (congrArg some (by kernel_rfl))
 f171:=Tryz.func215.trans (congrArg some (by kernel_rfl))
 f243:=Tryz.func236.trans (congrArg some (by kernel_rfl))
 f246:=Tryz.func149.trans (congrArg some (by kernel_rfl))
 f283:=Tryz.func181.trans (congrArg some (by kernel_rfl))
 f284:=Tryz.func182.trans (congrArg some (by kernel_rfl))
 f285:=Tryz.func183.trans (congrArg some (by kernel_rfl))
 f286:=Tryz.func184.trans (congrArg some (by kernel_rfl))
 f317:=Tryz.func206.trans (congrArg some (by kernel_rfl))
 f318:=Tryz.func207.trans (congrArg some (by kernel_rfl))
 f319:=Tryz.func208.trans (congrArg some (by kernel_rfl))
 f320:=Tryz.func209.trans (congrArg some (by kernel_rfl))
 f337:=Tryz.func231.trans (congrArg some (by kernel_rfl))
 f338:=Tryz.func232.trans (congrArg some (by kernel_rfl))
 t0:=Tryz.underlying0
 a0:=Tryz.isAgg0
 z0:=Tryz.sizeOf0
 v0:=Tryz.zeroValue0
 t2:=Tryz.underlying2
 a2:=Tryz.isAgg2
 z2:=Tryz.sizeOf2
 v2:=Tryz.zeroValue2
 t3:=Tryz.underlying3
 a3:=Tryz.isAgg3
 z3:=Tryz.sizeOf3
 v3:=Tryz.zeroValue3
 t4:=Tryz.underlying4
 a4:=Tryz.isAgg4
 z4:=Tryz.sizeOf4
 v4:=Tryz.zeroValue4
 t5:=Tryz.underlying5
 a5:=Tryz.isAgg5
 z5:=Tryz.sizeOf5
 v5:=Tryz.zeroValue5
 t9:=Tryz.underlying9
 a9:=Tryz.isAgg9
 z9:=Tryz.sizeOf9
 v9:=Tryz.zeroValue9
 t20:=Tryz.underlying20
 a20:=Tryz.isAgg20
 z20:=Tryz.sizeOf20
 v20:=Tryz.zeroValue20
 t37:=Tryz.underlying60
 a37:=Tryz.isAgg60
 z37:=Tryz.sizeOf60
 v37:=Tryz.zeroValue60
 t46:=Tryz.underlying39
 a46:=Tryz.isAgg39
 z46:=Tryz.sizeOf39
 v46:=Tryz.zeroValue39
 t51:=Tryz.underlying218
 a51:=Tryz.isAgg218
 z51:=Tryz.sizeOf218
 v51:=Tryz.zeroValue218
 t53:=Tryz.underlying220
 a53:=Tryz.isAgg220
 z53:=Tryz.sizeOf220
 v53:=Tryz.zeroValue220
 t171:=Tryz.underlying283
 a171:=Tryz.isAgg283
 z171:=Tryz.sizeOf283
 v171:=Tryz.zeroValue283
 t173:=Tryz.underlying285
 a173:=Tryz.isAgg285
 z173:=Tryz.sizeOf285
 v173:=Tryz.zeroValue285
 t212:=Tryz.underlying310
 a212:=Tryz.isAgg310
 z212:=Tryz.sizeOf310
 v212:=Tryz.zeroValue310
 t213:=Tryz.underlying311
 a213:=Tryz.isAgg311
 z213:=Tryz.sizeOf311
 t232:=Tryz.underlying338
 a232:=Tryz.isAgg338
 z232:=Tryz.sizeOf338
 v232:=Tryz.zeroValue338
 t233:=Tryz.underlying294
 a233:=Tryz.isAgg294
 z233:=Tryz.sizeOf294
 v233:=Tryz.zeroValue294
 g17:=by kernel_rfl
 g18:=by kernel_rfl
 g19:=by kernel_rfl }
def Tryz.laysM173_ren:Go.Shelf.Ren:=⟨fun | 173=>122 | 246=>149 | 283=>181 | 284=>182 | 285=>183 | 286=>184 | 129=>119 | 317=>206 | 318=>207 | 319=>208 | 320=>209 | 337=>231 | 338=>232 | n=>n,fun | 2=>2 | 3=>3 | 9=>9 | 4=>4 | 171=>283 | 0=>0 | 53=>220 | 37=>60 | 5=>5 | 173=>285 | 212=>310 | 51=>218 | 20=>20 | 213=>311 | 46=>39 | 232=>338 | 233=>294 | n=>n,fun | 17=>3 | 18=>8 | 19=>9 | n=>n⟩
theorem Tryz.laysM173:Go.Proofs.LaysM.n173 Tryz.prog Tryz.laysM173_ren:={
 mixed:=by kernel_rfl
 f129:=Tryz.func119.trans (congrArg some (by kernel_rfl))
 f173:=Tryz.func122.trans (congrArg some (by kernel_rfl))
 f246:=Tryz.func149.trans (congrArg some (by kernel_rfl))
 f283:=Tryz.func181.trans (congrArg some (by kernel_rfl))
 f284:=Tryz.func182.trans (congrArg some (by kernel_rfl))
 f285:=Tryz.func183.trans (congrArg some (by kernel_rfl))
 f286:=Tryz.func184.trans (congrArg some (by kernel_rfl))
 f317:=Tryz.func206.trans (congrArg some (by kernel_rfl))
 f318:=Tryz.func207.trans (congrArg some (by kernel_rfl))
 f319:=Tryz.func208.trans (congrArg some (by kernel_rfl))
 f320:=Tryz.func209.trans (congrArg some (by kernel_rfl))
 f337:=Tryz.func231.trans (congrArg some (by kernel_rfl))
 f338:=Tryz.func232.trans (congrArg some (by kernel_rfl))
 t0:=Tryz.underlying0
 a0:=Tryz.isAgg0
 z0:=Tryz.sizeOf0
 v0:=Tryz.zeroValue0
 t2:=Tryz.underlying2
 a2:=Tryz.isAgg2
 z2:=Tryz.sizeOf2
 v2:=Tryz.zeroValue2
 t3:=Tryz.underlying3
 a3:=Tryz.isAgg3
 z3:=Tryz.sizeOf3
 v3:=Tryz.zeroValue3
 t4:=Tryz.underlying4
 a4:=Tryz.isAgg4
 z4:=Tryz.sizeOf4
 v4:=Tryz.zeroValue4
 t5:=Tryz.underlying5
 a5:=Tryz.isAgg5
 z5:=Tryz.sizeOf5
 v5:=Tryz.zeroValue5
 t9:=Tryz.underlying9
 a9:=Tryz.isAgg9
 z9:=Tryz.sizeOf9
 v9:=Tryz.zeroValue9
 t20:=Tryz.underlying20
 a20:=Tryz.isAgg20
 z20:=Tryz.sizeOf20
 v20:=Tryz.zeroValue20
 t37:=Tryz.underlying60
 a37:=Tryz.isAgg60
 z37:=Tryz.sizeOf60
 v37:=Tryz.zeroValue60
 t46:=Tryz.underlying39
 a46:=Tryz.isAgg39
 z46:=Tryz.sizeOf39
 v46:=Tryz.zeroValue39
 t51:=Tryz.underlying218
 a51:=Tryz.isAgg218
 z51:=Tryz.sizeOf218
 v51:=Tryz.zeroValue218
 t53:=Tryz.underlying220
 a53:=Tryz.isAgg220
 z53:=Tryz.sizeOf220
 v53:=Tryz.zeroValue220
 t171:=Tryz.underlying283
 a171:=Tryz.isAgg283
 z171:=Tryz.sizeOf283
 v171:=Tryz.zeroValue283
 t173:=Tryz.underlying285
 a173:=Tryz.isAgg285
 z173:=Tryz.sizeOf285
 v173:=Tryz.zeroValue285
 t212:=Tryz.underlying310
 a212:=Tryz.isAgg310
 z212:=Tryz.sizeOf310
 v212:=Tryz.zeroValue310
 t213:=Tryz.underlying311
 a213:=Tryz.isAgg311
 z213:=Tryz.sizeOf311
 t232:=Tryz.underlying338
 a232:=Tryz.isAgg338
 z232:=Tryz.sizeOf338
 v232:=Tryz.zeroValue338
 t233:=Tryz.underlying294
 a233:=Tryz.isAgg294
 z233:=Tryz.sizeOf294
 v233:=Tryz.zeroValue294
 g17:=by kernel_rfl
 g18:=by kernel_rfl
 g19:=by kernel_rfl
 i0:=by kernel_rfl
 i2:=by kernel_rfl
 i3:=by kernel_rfl
 i4:=by kernel_rfl
 i5:=by kernel_rfl
 i9:=by kernel_rfl
 i20:=by kernel_rfl
 i37:=by kernel_rfl
 i46:=by kernel_rfl
 i51:=by kernel_rfl
 i53:=by kernel_rfl
 i171:=by kernel_rfl
 i173:=by kernel_rfl
 i212:=by kernel_rfl
 i232:=by kernel_rfl
 i233:=by kernel_rfl
 m17:=by kernel_rfl
 m18:=by kernel_rfl
 m19:=by kernel_rfl }
def Tryz.lays160_ren:Go.Shelf.Ren:=⟨fun | 160=>144 | 232=>172 | 231=>171 | 227=>147 | 234=>174 | 233=>173 | 236=>176 | 235=>175 | 228=>148 | 271=>205 | 151=>130 | 197=>204 | 120=>230 | 152=>145 | 260=>229 | 137=>177 | 119=>178 | 224=>179 | 225=>180 | 217=>194 | 266=>218 | n=>n,fun | 9=>9 | 4=>4 | 3=>3 | 5=>5 | 117=>249 | 116=>248 | 0=>0 | 124=>279 | 21=>21 | 105=>307 | 46=>39 | 119=>334 | 139=>337 | 138=>336 | n=>n,fun | 3=>6 | 4=>7 | n=>n⟩
theorem Tryz.lays160:Go.Proofs.Lays.n160 Tryz.prog Tryz.lays160_ren:={
 mixed:=by kernel_rfl
 f119:=Tryz.func178.trans (congrArg some (by kernel_rfl))
 f120:=Tryz.func230.trans (congrArg some (by kernel_rfl))
 f137:=Tryz.func177.trans (congrArg some (by kernel_rfl))
 f151:=Tryz.func130.trans (congrArg some (by kernel_rfl))
 f152:=Tryz.func145.trans (congrArg some (by kernel_rfl))
 f160:=Tryz.func144.trans (congrArg some (by kernel_rfl))
 f197:=Tryz.func204.trans (congrArg some (by kernel_rfl))
 f217:=Tryz.func194.trans (congrArg some (by kernel_rfl))
 f224:=Tryz.func179.trans (congrArg some (by kernel_rfl))
 f225:=Tryz.func180.trans (congrArg some (by kernel_rfl))
 f227:=Tryz.func147.trans (congrArg some (by kernel_rfl))
 f228:=Tryz.func148.trans (congrArg some (by kernel_rfl))
 f231:=Tryz.func171.trans (congrArg some (by kernel_rfl))
 f232:=Tryz.func172.trans (congrArg some (by kernel_rfl))
 f233:=Tryz.func173.trans (congrArg some (by kernel_rfl))
 f234:=Tryz.func174.trans (congrArg some (by kernel_rfl))
 f235:=Tryz.func175.trans (congrArg some (by kernel_rfl))
 f236:=Tryz.func176.trans (congrArg some (by kernel_rfl))
 f260:=Tryz.func229.trans (congrArg some (by kernel_rfl))
 f266:=Tryz.func218.trans (congrArg some (by kernel_rfl))
 f271:=Tryz.func205.trans (congrArg some (by kernel_rfl))
 t0:=Tryz.underlying0
 a0:=Tryz.isAgg0
 z0:=Tryz.sizeOf0
 v0:=Tryz.zeroValue0
 t3:=Tryz.underlying3
 a3:=Tryz.isAgg3
 z3:=Tryz.sizeOf3
 v3:=Tryz.zeroValue3
 t4:=Tryz.underlying4
 a4:=Tryz.isAgg4
 z4:=Tryz.sizeOf4
 v4:=Tryz.zeroValue4
 t5:=Tryz.underlying5
 a5:=Tryz.isAgg5
 z5:=Tryz.sizeOf5
 v5:=Tryz.zeroValue5
 t9:=Tryz.underlying9
 a9:=Tryz.isAgg9
 z9:=Tryz.sizeOf9
 v9:=Tryz.zeroValue9
 t21:=Tryz.underlying21
 a21:=Tryz.isAgg21
 z21:=Tryz.sizeOf21
 v21:=Tryz.zeroValue21
 t46:=Tryz.underlying39
 a46:=Tryz.isAgg39
 z46:=Tryz.sizeOf39
 v46:=Tryz.zeroValue39
 t105:=Tryz.underlying307
 a105:=Tryz.isAgg307
 z105:=Tryz.sizeOf307
 v105:=Tryz.zeroValue307
 t116:=Tryz.underlying248
 a116:=Tryz.isAgg248
 z116:=Tryz.sizeOf248
 t117:=Tryz.underlying249
 a117:=Tryz.isAgg249
 z117:=Tryz.sizeOf249
 v117:=Tryz.zeroValue249
 t119:=Tryz.underlying334
 a119:=Tryz.isAgg334
 z119:=Tryz.sizeOf334
 t124:=Tryz.underlying279
 a124:=Tryz.isAgg279
 z124:=Tryz.sizeOf279
 v124:=Tryz.zeroValue279
 t138:=Tryz.underlying336
 a138:=Tryz.isAgg336
 z138:=Tryz.sizeOf336
 v138:=Tryz.zeroValue336
 t139:=Tryz.underlying337
 a139:=Tryz.isAgg337
 z139:=Tryz.sizeOf337
 v139:=Tryz.zeroValue337
 g3:=by kernel_rfl
 g4:=by kernel_rfl }
def Tryz.lays153_ren:Go.Shelf.Ren:=⟨fun | 153=>121 | 152=>145 | 226=>146 | 227=>147 | 228=>148 | 137=>177 | 119=>178 | 224=>179 | 225=>180 | 217=>194 | 266=>218 | n=>n,fun | 9=>9 | 3=>3 | 4=>4 | 5=>5 | 21=>21 | 117=>249 | 116=>248 | 0=>0 | 46=>39 | 124=>279 | n=>n,fun | n=>n⟩
theorem Tryz.lays153:Go.Proofs.Lays.n153 Tryz.prog Tryz.lays153_ren:={
 mixed:=by kernel_rfl
 f119:=Tryz.func178.trans (congrArg some (by kernel_rfl))
 f137:=Tryz.func177.trans (congrArg some (by kernel_rfl))
 f152:=Tryz.func145.trans (congrArg some (by kernel_rfl))
 f153:=Tryz.func121.trans (congrArg some (by kernel_rfl))
 f217:=Tryz.func194.trans (congrArg some (by kernel_rfl))
 f224:=Tryz.func179.trans (congrArg some (by kernel_rfl))
 f225:=Tryz.func180.trans (congrArg some (by kernel_rfl))
 f226:=Tryz.func146.trans (congrArg some (by kernel_rfl))
 f227:=Tryz.func147.trans (congrArg some (by kernel_rfl))
 f228:=Tryz.func148.trans (congrArg some (by kernel_rfl))
 f266:=Tryz.func218.trans (congrArg some (by kernel_rfl))
 t0:=Tryz.underlying0
 a0:=Tryz.isAgg0
 z0:=Tryz.sizeOf0
 v0:=Tryz.zeroValue0
 t3:=Tryz.underlying3
 a3:=Tryz.isAgg3
 z3:=Tryz.sizeOf3
 v3:=Tryz.zeroValue3
 t4:=Tryz.underlying4
 a4:=Tryz.isAgg4
 z4:=Tryz.sizeOf4
 v4:=Tryz.zeroValue4
 t5:=Tryz.underlying5
 a5:=Tryz.isAgg5
 z5:=Tryz.sizeOf5
 v5:=Tryz.zeroValue5
 t9:=Tryz.underlying9
 a9:=Tryz.isAgg9
 z9:=Tryz.sizeOf9
 v9:=Tryz.zeroValue9
 t21:=Tryz.underlying21
 a21:=Tryz.isAgg21
 z21:=Tryz.sizeOf21
 v21:=Tryz.zeroValue21
 t46:=Tryz.underlying39
 a46:=Tryz.isAgg39
 z46:=Tryz.sizeOf39
 v46:=Tryz.zeroValue39
 t116:=Tryz.underlying248
 a116:=Tryz.isAgg248
 z116:=Tryz.sizeOf248
 t117:=Tryz.underlying249
 a117:=Tryz.isAgg249
 z117:=Tryz.sizeOf249
 v117:=Tryz.zeroValue249
 t124:=Tryz.underlying279
 a124:=Tryz.isAgg279
 z124:=Tryz.sizeOf279
 v124:=Tryz.zeroValue279 }
def Tryz.lays152_ren:Go.Shelf.Ren:=⟨fun | 152=>145 | 137=>177 | 119=>178 | 224=>179 | 225=>180 | 217=>194 | 266=>218 | n=>n,fun | 9=>9 | 21=>21 | 3=>3 | 4=>4 | 5=>5 | 0=>0 | 46=>39 | n=>n,fun | n=>n⟩
theorem Tryz.lays152:Go.Proofs.Lays.n152 Tryz.prog Tryz.lays152_ren:={
 mixed:=by kernel_rfl
 f119:=Tryz.func178.trans (congrArg some (by kernel_rfl))
 f137:=Tryz.func177.trans (congrArg some (by kernel_rfl))
 f152:=Tryz.func145.trans (congrArg some (by kernel_rfl))
 f217:=Tryz.func194.trans (congrArg some (by kernel_rfl))
 f224:=Tryz.func179.trans (congrArg some (by kernel_rfl))
 f225:=Tryz.func180.trans (congrArg some (by kernel_rfl))
 f266:=Tryz.func218.trans (congrArg some (by kernel_rfl))
 t0:=Tryz.underlying0
 a0:=Tryz.isAgg0
 z0:=Tryz.sizeOf0
 v0:=Tryz.zeroValue0
 t3:=Tryz.underlying3
 a3:=Tryz.isAgg3
 z3:=Tryz.sizeOf3
 v3:=Tryz.zeroValue3
 t4:=Tryz.underlying4
 a4:=Tryz.isAgg4
 z4:=Tryz.sizeOf4
 v4:=Tryz.zeroValue4
 t5:=Tryz.underlying5
 a5:=Tryz.isAgg5
 z5:=Tryz.sizeOf5
 v5:=Tryz.zeroValue5
 t9:=Tryz.underlying9
 a9:=Tryz.isAgg9
 z9:=Tryz.sizeOf9
 v9:=Tryz.zeroValue9
 t21:=Tryz.underlying21
 a21:=Tryz.isAgg21
 z21:=Tryz.sizeOf21
 v21:=Tryz.zeroValue21
 t46:=Tryz.underlying39
 a46:=Tryz.isAgg39
 z46:=Tryz.sizeOf39
 v46:=Tryz.zeroValue39 }
def Tryz.laysC174_ren:Go.Shelf.Ren:=⟨fun | 174=>164 | 247=>196 | 245=>197 | 287=>220 | 279=>221 | 280=>222 | 281=>223 | 282=>224 | 321=>237 | 322=>238 | 316=>239 | 171=>215 | 205=>240 | 243=>236 | 246=>149 | 283=>181 | 284=>182 | 285=>183 | 286=>184 | 129=>119 | 317=>206 | 318=>207 | 319=>208 | 320=>209 | 337=>231 | 338=>232 | n=>n,fun | 9=>9 | 3=>3 | 2=>2 | 75=>55 | 85=>267 | 4=>4 | 167=>324 | 5=>5 | 53=>220 | 175=>325 | 46=>39 | 168=>327 | 37=>60 | 0=>0 | 210=>333 | 21=>21 | 127=>291 | 145=>341 | 143=>339 | 171=>283 | 173=>285 | 212=>310 | 51=>218 | 20=>20 | 213=>311 | 232=>338 | 233=>294 | 80=>260 | n=>n,fun | 15=>4 | 16=>5 | 17=>3 | 18=>8 | 19=>9 | n=>n⟩
theorem Tryz.laysC174:Go.Proofs.LaysC.n174 Tryz.prog Tryz.laysC174_ren:={
 mixed:=by kernel_rfl
 f129:=Tryz.func119.trans (congrArg some (by kernel_rfl))
 f171:=Tryz.func215.trans (congrArg some (by kernel_rfl))
 f174:=Tryz.func164.trans (congrArg some (by kernel_rfl))
 f205:=Tryz.func240.trans (congrArg some (by kernel_rfl))
 f243:=Tryz.func236.trans (congrArg some (by kernel_rfl))
 f245:=Tryz.func197.trans (congrArg some (by kernel_rfl))
 f246:=Tryz.func149.trans (congrArg some (by kernel_rfl))
 f247:=Tryz.func196.trans (congrArg some (by kernel_rfl))
 f279:=Tryz.func221.trans (congrArg some (by kernel_rfl))
 f280:=Tryz.func222.trans (congrArg some (by kernel_rfl))
 f281:=Tryz.func223.trans (congrArg some (by kernel_rfl))
 f282:=Tryz.func224.trans (congrArg some (by kernel_rfl))
 f283:=Tryz.func181.trans (congrArg some (by kernel_rfl))
 f284:=Tryz.func182.trans (congrArg some (by kernel_rfl))
 f285:=Tryz.func183.trans (congrArg some (by kernel_rfl))
 f286:=Tryz.func184.trans (congrArg some (by kernel_rfl))
 f287:=Tryz.func220.trans (congrArg some (by kernel_rfl))
 f316:=Tryz.func239.trans (congrArg some (by kernel_rfl))
 f317:=Tryz.func206.trans (congrArg some (by kernel_rfl))
 f318:=Tryz.func207.trans (congrArg some (by kernel_rfl))
 f319:=Tryz.func208.trans (congrArg some (by kernel_rfl))
 f320:=Tryz.func209.trans (congrArg some (by kernel_rfl))
 f321:=Tryz.func237.trans (congrArg some (by kernel_rfl))
 f322:=Tryz.func238.trans (congrArg some (by kernel_rfl))
 f337:=Tryz.func231.trans (congrArg some (by kernel_rfl))
 f338:=Tryz.func232.trans (congrArg some (by kernel_rfl))
 t0:=Tryz.underlying0
 a0:=Tryz.isAgg0
 z0:=Tryz.sizeOf0
 v0:=Tryz.zeroValue0
 t2:=Tryz.underlying2
 a2:=Tryz.isAgg2
 z2:=Tryz.sizeOf2
 v2:=Tryz.zeroValue2
 t3:=Tryz.underlying3
 a3:=Tryz.isAgg3
 z3:=Tryz.sizeOf3
 v3:=Tryz.zeroValue3
 t4:=Tryz.underlying4
 a4:=Tryz.isAgg4
 z4:=Tryz.sizeOf4
 v4:=Tryz.zeroValue4
 t5:=Tryz.underlying5
 a5:=Tryz.isAgg5
 z5:=Tryz.sizeOf5
 v5:=Tryz.zeroValue5
 t9:=Tryz.underlying9
 a9:=Tryz.isAgg9
 z9:=Tryz.sizeOf9
 v9:=Tryz.zeroValue9
 t20:=Tryz.underlying20
 a20:=Tryz.isAgg20
 z20:=Tryz.sizeOf20
 v20:=Tryz.zeroValue20
 t21:=Tryz.underlying21
 a21:=Tryz.isAgg21
 z21:=Tryz.sizeOf21
 v21:=Tryz.zeroValue21
 t37:=Tryz.underlying60
 a37:=Tryz.isAgg60
 z37:=Tryz.sizeOf60
 v37:=Tryz.zeroValue60
 t46:=Tryz.underlying39
 a46:=Tryz.isAgg39
 z46:=Tryz.sizeOf39
 v46:=Tryz.zeroValue39
 t51:=Tryz.underlying218
 a51:=Tryz.isAgg218
 z51:=Tryz.sizeOf218
 v51:=Tryz.zeroValue218
 t53:=Tryz.underlying220
 a53:=Tryz.isAgg220
 z53:=Tryz.sizeOf220
 v53:=Tryz.zeroValue220
 t75:=Tryz.underlying55
 a75:=Tryz.isAgg55
 z75:=Tryz.sizeOf55
 v75:=Tryz.zeroValue55
 t85:=Tryz.underlying267
 a85:=Tryz.isAgg267
 z85:=Tryz.sizeOf267
 v85:=Tryz.zeroValue267
 t127:=Tryz.underlying291
 a127:=Tryz.isAgg291
 z127:=Tryz.sizeOf291
 v127:=Tryz.zeroValue291
 t143:=Tryz.underlying339
 a143:=Tryz.isAgg339
 z143:=Tryz.sizeOf339
 v143:=Tryz.zeroValue339
 t145:=Tryz.underlying341
 a145:=Tryz.isAgg341
 z145:=Tryz.sizeOf341
 v145:=Tryz.zeroValue341
 t167:=Tryz.underlying324
 a167:=Tryz.isAgg324
 z167:=Tryz.sizeOf324
 v167:=Tryz.zeroValue324
 t168:=Tryz.underlying327
 a168:=Tryz.isAgg327
 z168:=Tryz.sizeOf327
 v168:=Tryz.zeroValue327
 t171:=Tryz.underlying283
 a171:=Tryz.isAgg283
 z171:=Tryz.sizeOf283
 v171:=Tryz.zeroValue283
 t173:=Tryz.underlying285
 a173:=Tryz.isAgg285
 z173:=Tryz.sizeOf285
 v173:=Tryz.zeroValue285
 t175:=Tryz.underlying325
 a175:=Tryz.isAgg325
 z175:=Tryz.sizeOf325
 v175:=Tryz.zeroValue325
 t210:=Tryz.underlying333
 a210:=Tryz.isAgg333
 z210:=Tryz.sizeOf333
 v210:=Tryz.zeroValue333
 t212:=Tryz.underlying310
 a212:=Tryz.isAgg310
 z212:=Tryz.sizeOf310
 v212:=Tryz.zeroValue310
 t213:=Tryz.underlying311
 a213:=Tryz.isAgg311
 z213:=Tryz.sizeOf311
 t232:=Tryz.underlying338
 a232:=Tryz.isAgg338
 z232:=Tryz.sizeOf338
 v232:=Tryz.zeroValue338
 t233:=Tryz.underlying294
 a233:=Tryz.isAgg294
 z233:=Tryz.sizeOf294
 v233:=Tryz.zeroValue294
 g15:=by kernel_rfl
 g16:=by kernel_rfl
 g17:=by kernel_rfl
 g18:=by kernel_rfl
 g19:=by kernel_rfl
 t80:=Tryz.underlying260
 a80:=Tryz.isAgg260
 z80:=Tryz.sizeOf260
 v80:=Tryz.zeroValue260
 i0:=by kernel_rfl
 i2:=by kernel_rfl
 i3:=by kernel_rfl
 i4:=by kernel_rfl
 i5:=by kernel_rfl
 i9:=by kernel_rfl
 i20:=by kernel_rfl
 i21:=by kernel_rfl
 i37:=by kernel_rfl
 i46:=by kernel_rfl
 i51:=by kernel_rfl
 i53:=by kernel_rfl
 i75:=by kernel_rfl
 i80:=by kernel_rfl
 i85:=by kernel_rfl
 i127:=by kernel_rfl
 i143:=by kernel_rfl
 i145:=by kernel_rfl
 i167:=by kernel_rfl
 i168:=by kernel_rfl
 i171:=by kernel_rfl
 i173:=by kernel_rfl
 i175:=by kernel_rfl
 i210:=by kernel_rfl
 i212:=by kernel_rfl
 i232:=by kernel_rfl
 i233:=by kernel_rfl
 m15:=by kernel_rfl
 m16:=by kernel_rfl
 m17:=by kernel_rfl
 m18:=by kernel_rfl
 m19:=by kernel_rfl
 c0:=by kernel_rfl
 c2:=by kernel_rfl
 c3:=by kernel_rfl
 c4:=by kernel_rfl
 c5:=by kernel_rfl
 c9:=by kernel_rfl
 c20:=by kernel_rfl
 c21:=by kernel_rfl
 c37:=by kernel_rfl
 c46:=by kernel_rfl
 c51:=by kernel_rfl
 c53:=by kernel_rfl
 c75:=by kernel_rfl
 c80:=by kernel_rfl
 c85:=by kernel_rfl
 c127:=by kernel_rfl
 c143:=by kernel_rfl
 c145:=by kernel_rfl
 c167:=by kernel_rfl
 c168:=by kernel_rfl
 c171:=by kernel_rfl
 c173:=by kernel_rfl
 c175:=by kernel_rfl
 c210:=by kernel_rfl
 c212:=by kernel_rfl
 c213:=by kernel_rfl
 c232:=by kernel_rfl
 c233:=by kernel_rfl }
def Tryz.laysC172_ren:Go.Shelf.Ren:=⟨fun | 172=>242 | 244=>243 | 245=>197 | 247=>196 | 279=>221 | 280=>222 | 281=>223 | 282=>224 | 287=>220 | 316=>239 | 171=>215 | 205=>240 | 321=>237 | 322=>238 | 243=>236 | 246=>149 | 283=>181 | 284=>182 | 285=>183 | 286=>184 | 129=>119 | 317=>206 | 318=>207 | 319=>208 | 320=>209 | 337=>231 | 338=>232 | n=>n,fun | 9=>9 | 3=>3 | 75=>55 | 76=>257 | 4=>4 | 5=>5 | 167=>324 | 37=>60 | 0=>0 | 85=>267 | 2=>2 | 168=>327 | 53=>220 | 175=>325 | 46=>39 | 210=>333 | 127=>291 | 145=>341 | 143=>339 | 21=>21 | 171=>283 | 173=>285 | 212=>310 | 51=>218 | 20=>20 | 213=>311 | 232=>338 | 233=>294 | 80=>260 | n=>n,fun | 15=>4 | 16=>5 | 17=>3 | 18=>8 | 19=>9 | n=>n⟩
theorem Tryz.laysC172:Go.Proofs.LaysC.n172 Tryz.prog Tryz.laysC172_ren:={
 mixed:=by kernel_rfl
 f129:=Tryz.func119.trans (congrArg some (by kernel_rfl))
 f171:=Tryz.func215.trans (congrArg some (by kernel_rfl))
 f172:=Tryz.func242.trans (congrArg some (by kernel_rfl))
 f205:=Tryz.func240.trans (congrArg some (by kernel_rfl))
 f243:=Tryz.func236.trans (congrArg some (by kernel_rfl))
 f244:=Tryz.func243.trans (congrArg some (by kernel_rfl))
 f245:=Tryz.func197.trans (congrArg some (by kernel_rfl))
 f246:=Tryz.func149.trans (congrArg some (by kernel_rfl))
 f247:=Tryz.func196.trans (congrArg some (by kernel_rfl))
 f279:=Tryz.func221.trans (congrArg some (by kernel_rfl))
 f280:=Tryz.func222.trans (congrArg some (by kernel_rfl))
 f281:=Tryz.func223.trans (congrArg some (by kernel_rfl))
 f282:=Tryz.func224.trans (congrArg some (by kernel_rfl))
 f283:=Tryz.func181.trans (congrArg some (by kernel_rfl))
 f284:=Tryz.func182.trans (congrArg some (by kernel_rfl))
 f285:=Tryz.func183.trans (congrArg some (by kernel_rfl))
 f286:=Tryz.func184.trans (congrArg some (by kernel_rfl))
 f287:=Tryz.func220.trans (congrArg some (by kernel_rfl))
 f316:=Tryz.func239.trans (congrArg some (by kernel_rfl))
 f317:=Tryz.func206.trans (congrArg some (by kernel_rfl))
 f318:=Tryz.func207.trans (congrArg some (by kernel_rfl))
 f319:=Tryz.func208.trans (congrArg some (by kernel_rfl))
 f320:=Tryz.func209.trans (congrArg some (by kernel_rfl))
 f321:=Tryz.func237.trans (congrArg some (by kernel_rfl))
 f322:=Tryz.func238.trans (congrArg some (by kernel_rfl))
 f337:=Tryz.func231.trans (congrArg some (by kernel_rfl))
 f338:=Tryz.func232.trans (congrArg some (by kernel_rfl))
 t0:=Tryz.underlying0
 a0:=Tryz.isAgg0
 z0:=Tryz.sizeOf0
 v0:=Tryz.zeroValue0
 t2:=Tryz.underlying2
 a2:=Tryz.isAgg2
 z2:=Tryz.sizeOf2
 v2:=Tryz.zeroValue2
 t3:=Tryz.underlying3
 a3:=Tryz.isAgg3
 z3:=Tryz.sizeOf3
 v3:=Tryz.zeroValue3
 t4:=Tryz.underlying4
 a4:=Tryz.isAgg4
 z4:=Tryz.sizeOf4
 v4:=Tryz.zeroValue4
 t5:=Tryz.underlying5
 a5:=Tryz.isAgg5
 z5:=Tryz.sizeOf5
 v5:=Tryz.zeroValue5
 t9:=Tryz.underlying9
 a9:=Tryz.isAgg9
 z9:=Tryz.sizeOf9
 v9:=Tryz.zeroValue9
 t20:=Tryz.underlying20
 a20:=Tryz.isAgg20
 z20:=Tryz.sizeOf20
 v20:=Tryz.zeroValue20
 t21:=Tryz.underlying21
 a21:=Tryz.isAgg21
 z21:=Tryz.sizeOf21
 v21:=Tryz.zeroValue21
 t37:=Tryz.underlying60
 a37:=Tryz.isAgg60
 z37:=Tryz.sizeOf60
 v37:=Tryz.zeroValue60
 t46:=Tryz.underlying39
 a46:=Tryz.isAgg39
 z46:=Tryz.sizeOf39
 v46:=Tryz.zeroValue39
 t51:=Tryz.underlying218
 a51:=Tryz.isAgg218
 z51:=Tryz.sizeOf218
 v51:=Tryz.zeroValue218
 t53:=Tryz.underlying220
 a53:=Tryz.isAgg220
 z53:=Tryz.sizeOf220
 v53:=Tryz.zeroValue220
 t75:=Tryz.underlying55
 a75:=Tryz.isAgg55
 z75:=Tryz.sizeOf55
 v75:=Tryz.zeroValue55
 t76:=Tryz.underlying257
 a76:=Tryz.isAgg257
 z76:=Tryz.sizeOf257
 v76:=Tryz.zeroValue257
 t85:=Tryz.underlying267
 a85:=Tryz.isAgg267
 z85:=Tryz.sizeOf267
 v85:=Tryz.zeroValue267
 t127:=Tryz.underlying291
 a127:=Tryz.isAgg291
 z127:=Tryz.sizeOf291
 v127:=Tryz.zeroValue291
 t143:=Tryz.underlying339
 a143:=Tryz.isAgg339
 z143:=Tryz.sizeOf339
 v143:=Tryz.zeroValue339
 t145:=Tryz.underlying341
 a145:=Tryz.isAgg341
 z145:=Tryz.sizeOf341
 v145:=Tryz.zeroValue341
 t167:=Tryz.underlying324
 a167:=Tryz.isAgg324
 z167:=Tryz.sizeOf324
 v167:=Tryz.zeroValue324
 t168:=Tryz.underlying327
 a168:=Tryz.isAgg327
 z168:=Tryz.sizeOf327
 v168:=Tryz.zeroValue327
 t171:=Tryz.underlying283
 a171:=Tryz.isAgg283
 z171:=Tryz.sizeOf283
 v171:=Tryz.zeroValue283
 t173:=Tryz.underlying285
 a173:=Tryz.isAgg285
 z173:=Tryz.sizeOf285
 v173:=Tryz.zeroValue285
 t175:=Tryz.underlying325
 a175:=Tryz.isAgg325
 z175:=Tryz.sizeOf325
 v175:=Tryz.zeroValue325
 t210:=Tryz.underlying333
 a210:=Tryz.isAgg333
 z210:=Tryz.sizeOf333
 v210:=Tryz.zeroValue333
 t212:=Tryz.underlying310
 a212:=Tryz.isAgg310
 z212:=Tryz.sizeOf310
 v212:=Tryz.zeroValue310
 t213:=Tryz.underlying311
 a213:=Tryz.isAgg311
 z213:=Tryz.sizeOf311
 t232:=Tryz.underlying338
 a232:=Tryz.isAgg338
 z232:=Tryz.sizeOf338
 v232:=Tryz.zeroValue338
 t233:=Tryz.underlying294
 a233:=Tryz.isAgg294
 z233:=Tryz.sizeOf294
 v233:=Tryz.zeroValue294
 g15:=by kernel_rfl
 g16:=by kernel_rfl
 g17:=by kernel_rfl
 g18:=by kernel_rfl
 g19:=by kernel_rfl
 t80:=Tryz.underlying260
 a80:=Tryz.isAgg260
 z80:=Tryz.sizeOf260
 v80:=Tryz.zeroValue260
 i0:=by kernel_rfl
 i2:=by kernel_rfl
 i3:=by kernel_rfl
 i4:=by kernel_rfl
 i5:=by kernel_rfl
 i9:=by kernel_rfl
 i20:=by kernel_rfl
 i21:=by kernel_rfl
 i37:=by kernel_rfl
 i46:=by kernel_rfl
 i51:=by kernel_rfl
 i53:=by kernel_rfl
 i75:=by kernel_rfl
 i76:=by kernel_rfl
 i80:=by kernel_rfl
 i85:=by kernel_rfl
 i127:=by kernel_rfl
 i143:=by kernel_rfl
 i145:=by kernel_rfl
 i167:=by kernel_rfl
 i168:=by kernel_rfl
 i171:=by kernel_rfl
 i173:=by kernel_rfl
 i175:=by kernel_rfl
 i210:=by kernel_rfl
 i212:=by kernel_rfl
 i232:=by kernel_rfl
 i233:=by kernel_rfl
 m15:=by kernel_rfl
 m16:=by kernel_rfl
 m17:=by kernel_rfl
 m18:=by kernel_rfl
 m19:=by kernel_rfl
 c0:=by kernel_rfl
 c2:=by kernel_rfl
 c3:=by kernel_rfl
 c4:=by kernel_rfl
 c5:=by kernel_rfl
 c9:=by kernel_rfl
 c20:=by kernel_rfl
 c21:=by kernel_rfl
 c37:=by kernel_rfl
 c46:=by kernel_rfl
 c51:=by kernel_rfl
 c53:=by kernel_rfl
 c75:=by kernel_rfl
 c76:=by kernel_rfl
 c80:=by kernel_rfl
 c85:=by kernel_rfl
 c127:=by kernel_rfl
 c143:=by kernel_rfl
 c145:=by kernel_rfl
 c167:=by kernel_rfl
 c168:=by kernel_rfl
 c171:=by kernel_rfl
 c173:=by kernel_rfl
 c175:=by kernel_rfl
 c210:=by kernel_rfl
 c212:=by kernel_rfl
 c213:=by kernel_rfl
 c232:=by kernel_rfl
 c233:=by kernel_rfl }
end Go.Proofs
namespace Go.Proofs.YtgliaiemkfopeaaGreatDoor
open Go.RowKit
theorem byte_getD (s:ByteArray) (q:Nat) (h:q<s.size):s.data.toList.getD q 0=s[q]'h:=by
 rw[List.getD_eq_getElem?_getD,Lib.data_getElem? s q h]
 rfl
theorem high_step (s:ByteArray) (pos:Nat) (h:pos<s.size) (ha:128<=(s[pos]'h).toNat) :
  128<=(Utf8.decode s pos).1/\Utf8.valid ((Utf8.decode s pos).1:Int)=true/\1<=(Utf8.decode s pos).2/\pos+(Utf8.decode s pos).2<=s.size/\∀ q,pos<=q->q<pos+(Utf8.decode s pos).2->128<=(s.data.toList.getD q 0).toNat:=by
 obtain⟨h1,h2⟩:=decode_high s pos h ha
 have hN:=Lib.decode_N s pos
 have hsz:=Lib.size_eq s
 have hb0:128<=(s.data.toList.getD pos 0).toNat:=by rw[byte_getD s pos h];exact ha
 have hv:=Lib.decodeN_valid (s.data.toList.length-pos) (s.data.toList.getD pos 0).toNat (s.data.toList.getD (pos+1) 0).toNat (s.data.toList.getD (pos+2) 0).toNat (s.data.toList.getD (pos+3) 0).toNat (UInt8.toNat_lt _)
 have hw:=Lib.decodeN_width_le (s.data.toList.length-pos) (s.data.toList.getD pos 0).toNat (s.data.toList.getD (pos+1) 0).toNat (s.data.toList.getD (pos+2) 0).toNat (s.data.toList.getD (pos+3) 0).toNat (by omega)
 have hc:=Lib.decodeN_conts (s.data.toList.length-pos) (s.data.toList.getD pos 0).toNat (s.data.toList.getD (pos+1) 0).toNat (s.data.toList.getD (pos+2) 0).toNat (s.data.toList.getD (pos+3) 0).toNat
 rw[<-hN] at hv hw hc
 obtain⟨c1,c2,c3,c4⟩:=hc
 refine⟨h1,?_,h2,by omega,fun q hq1 hq2=>?_⟩
 ·unfold Utf8.valid
  simp
  omega
 ·have e:q=pos ∨ q=pos+1 ∨ q=pos+2 ∨ q=pos+3:=by omega
  rcases e with rfl | rfl | rfl | rfl
  ·exact hb0
  ·have:=c1 (by omega);omega
  ·have:=c2 (by omega);omega
  ·have:=c3 (by omega);omega
def No (s ch:ByteArray) (i:Nat):Prop := ∀ q,q<i->s.data.toList.getD q 0 ∉ ch.data.toList
theorem Asc.mem {ch:ByteArray} (h:Asc ch) {x:UInt8} (hx:x ∈ ch.data.toList):x.toNat<128:=by
 obtain⟨q,hq,rfl⟩:=List.getElem_of_mem hx
 exact h q (by rw[Lib.size_eq];exact hq)
theorem YW {B:Nat} {w0 w:World} {k:Nat} {s:ByteArray} {p:Nat} (h:Below B w0 w) (hk:B<=k):Below B w0 (w.iterAt k s p) :=
 ⟨h.os,h.tape,h.output,by simp[World.iterAt];exact h.size,fun j hj=>by
  show (w.heap.setIfInBounds k _)[j]? = _
  rw[Array.getElem?_setIfInBounds_ne (by omega)]
  exact h.block j hj⟩
theorem indexByte_low (l:List UInt8) (c:UInt8) : -1<=Lib.indexByte l c:=by
 induction l with
 | nil=>simp[Lib.indexByte]
 | cons b l ih =>
  unfold Lib.indexByte
  split
  ·decide
  ·split
   ·exact Int.le_refl _
   ·omega
theorem indexByte_mem (l:List UInt8) (c:UInt8):(0<=Lib.indexByte l c) ↔ c ∈ l:=by
 induction l with
 | nil=>simp[Lib.indexByte]
 | cons b l ih =>
  unfold Lib.indexByte
  by_cases hb:b=c
  ·subst hb;simp
  ·have hbc:(b == c)=false:=beq_eq_false_iff_ne.2 hb
   rw[hbc]
   simp only[Bool.false_eq_true,if_false,List.mem_cons,Ne.symm hb,false_or]
   rw[<-ih]
   by_cases h1:Lib.indexByte l c = -1
   ·simp[h1]
   ·have h2:(Lib.indexByte l c == -1)=false:=beq_eq_false_iff_ne.2 h1
    rw[h2]
    simp only[Bool.false_eq_true,if_false]
    have:=indexByte_low l c
    omega
def kX (s ch:ByteArray):Prop := ∃ x ∈ s.data.toList,x ∈ ch.data.toList
theorem no_all {s ch:ByteArray} (h:No s ch s.size):¬ kX s ch:=by
 rintro⟨x,hx,hc⟩
 obtain⟨q,hq,rfl⟩:=List.getElem_of_mem hx
 refine h q (by rw[Lib.size_eq];exact hq) ?_
 rw[List.getD_eq_getElem?_getD,List.getElem?_eq_getElem hq]
 exact hc
set_option maxHeartbeats 1000000 in
theorem indexAny_short (s ch:ByteArray) (h2:2<=ch.size) (h100:ch.size<=100) (hch:Asc ch) (h8:s.size<=8) (w:World) :
  Calls Tryz.prog 121 #[.string s,.string ch] w fun e w'=>(∃ i:Int,e=.returned (.int .i64 i)/\(0<=i ↔ kX s ch))/\Below w.heap.size w w':=by
 have HCH:Hid (Asc ch):=hch
 clear hch
 have hemp:ch.toList.isEmpty=false:=by
  rw[Lib.toList_data]
  cases h:ch.data.toList with
  | nil=>have:=Lib.size_eq ch;rw[h,List.length_nil] at this;omega
  | cons _ _=>rfl
 have hn1:((ch.size:Int) == 1)=false:=beq_eq_false_iff_ne.2 (by omega)
 have hn1':¬ (ch.size:Int)=1:=by omega
 have h8i:¬ (8:Int)<(s.size:Int):=by omega
 obtain⟨G,HG⟩:=nm_ w.heap.size
 go_enter Tryz.func121,Tryz.ntmps121
 go_wp2
 rw[HG.out]
 have hit0:(w.iter s 0).heap[G]? = some (.stringIter s 0):=by rw[<-HG.out];exact World.iter_heap w s 0
 have HB0:Hid (Below G w (w.iter s 0)):=hid (by rw[<-HG.out];exact Zv w s 0)
 go_loopg [9,10] s.size (fun g _ _ wx=>∃ i:Nat,i<=s.size/\g=s.size-i/\wx.heap[G]? = some (.stringIter s i)/\Hid (Below G w wx)/\Hid (No s ch i))
 case atStart=>exact⟨0,Nat.zero_le _,rfl,hit0,HB0,fun q hq=>by omega⟩
 case round =>
  obtain⟨i,hi,hg,hit,HB,HNo⟩:=hrel
  clear hit0
  have hGs:G<wr.heap.size:=by
   rcases Nat.lt_or_ge G wr.heap.size with h | h
   ·exact h
   ·rw[Array.getElem?_eq_none h] at hit;cases hit
  by_cases hlt:i<s.size
  ·obtain⟨x,hx⟩:∃ x:UInt8,s[i]'hlt=x:=⟨_,rfl⟩
   have hxg:s.data.toList.getD i 0=x:=by rw[byte_getD s i hlt,hx]
   by_cases hx128:x.toNat<128
   ·have hnx:=fun ty=>Lib.run_next_ascii_at (P:=Tryz.prog) wr G s i ty hit hlt (by rw[hx];exact hx128)
    rw[hx] at hnx
    obtain⟨w1,HW1⟩:=nm_ (wr.iterAt G s (i+1))
    have hit1:w1.heap[G]? = some (.stringIter s (i+1)):=by rw[<-HW1.out];exact Lib.iterAt_heap wr G s i (i+1) hit
    have HB1:Hid (Below G w w1):=hid (by rw[<-HW1.out];exact YW HB.out (Nat.le_refl _))
    rw[HW1.out] at hnx
    have hback:((x.toNat:Int)).toNat.toUInt8=x:=by simp
    have HIR:Hid (∀ W,Calls Tryz.prog 145 #[.string ch,.int .i32 (x.toNat:Int)] W fun e w'=>e=.returned (.int .i64 (Lib.indexByte ch.data.toList x))/\w'=W):=fun W=>by
     have:=Any.strings_IndexRune_ascii Tryz.lays152 ch (x.toNat:Int) W (by omega) (by omega)
     rw[hback] at this
     exact this
    obtain⟨j,HJ⟩:=nm_ (Lib.indexByte ch.data.toList x)
    rw[HJ.out] at HIR
    have hmem:Hid (0<=j ↔ x ∈ ch.data.toList):=hid (by rw[<-HJ.out];exact indexByte_mem _ _)
    clear hit hx
    by_cases hj:0<=j
    ·go_wp2_with (go_at_call 145;refine(HIR.out _).mono ?_;rintro ev w' ⟨rfl,rfl⟩)
     go_ret
     refine⟨⟨(i:Int),rfl,⟨fun _=>⟨x,?_,hmem.out.1 hj⟩,fun _=>by omega⟩⟩,by rw[HG.out];exact HB1.out⟩
     rw[<-hxg,List.getD_eq_getElem?_getD,List.getElem?_eq_getElem (by rw[<-Lib.size_eq];exact hlt)]
     exact List.getElem_mem _
    ·have HNo1:Hid (No s ch (i+1)):=fun q hq=>by
      rcases Nat.lt_or_ge q i with h | h
      ·exact HNo.out q h
      ·obtain rfl:q=i:=by omega
       rw[hxg]
       exact fun hm=>hj (hmem.out.2 hm)
     go_wp2_with (go_at_call 145;refine(HIR.out _).mono ?_;rintro ev w' ⟨rfl,rfl⟩)
     go_roundg (s.size-(i+1))
     case measure=>omega
     case rel=>exact⟨i+1,by omega,rfl,hit1,HB1,HNo1⟩
   ·obtain⟨e1,e2,e3,e4,e5⟩:=high_step s i hlt (by rw[hx];omega)
    have hnx:=fun ty=>Lib.run_next_any_at (P:=Tryz.prog) wr G s i ty hit hlt
    obtain⟨rn,HRN⟩:=nm_ ((Utf8.decode s i).1)
    obtain⟨wd,HWD⟩:=nm_ ((Utf8.decode s i).2)
    rw[HRN.out] at e1 e2
    rw[HWD.out] at e3 e4 e5
    rw[HRN.out,HWD.out] at hnx
    obtain⟨w1,HW1⟩:=nm_ (wr.iterAt G s (i+wd))
    have hit1:w1.heap[G]? = some (.stringIter s (i+wd)):=by rw[<-HW1.out];exact Lib.iterAt_heap wr G s i (i+wd) hit
    have HB1:Hid (Below G w w1):=hid (by rw[<-HW1.out];exact YW HB.out (Nat.le_refl _))
    rw[HW1.out] at hnx
    have HIR:Hid (∀ W,Calls Tryz.prog 145 #[.string ch,.int .i32 (rn:Int)] W fun e w'=>e=.returned (.int .i64 (-1))/\Below W.heap.size W w'):=fun W=>by
     by_cases h65:rn=65533
     ·rw[h65];exact indexRune_err ch HCH.out h100 W
     ·exact indexRune_high ch HCH.out h100 rn e1 e2 h65 W
    have HNo1:Hid (No s ch (i+wd)):=fun q hq=>by
     rcases Nat.lt_or_ge q i with h | h
     ·exact HNo.out q h
     ·intro hm
      have:=HCH.out.mem hm
      have:=e5 q h hq
      omega
    have hG1:G<w1.heap.size:=by
     rcases Nat.lt_or_ge G w1.heap.size with h | h
     ·exact h
     ·rw[Array.getElem?_eq_none h] at hit1;cases hit1
    clear hit hx hxg e5 e2
    go_wp2_with (go_at_call 145;refine(HIR.out _).mono ?_;rintro ev w2 ⟨rfl,hb2⟩)
    have hit2:w2.heap[G]? = some (.stringIter s (i+wd)):=(hb2.block G hG1).trans hit1
    have HB2:Hid (Below G w w2):=HB1.out.trans (hb2.mono (Nat.le_of_lt hG1))
    go_roundg (s.size-(i+wd))
    case measure=>omega
    case rel=>exact⟨i+wd,e4,rfl,hit2,HB2,HNo1⟩
  ·have hnx:=fun ty=>Lib.run_next_end_at (P:=Tryz.prog) wr G s i ty hit hlt
   obtain rfl:i=s.size:=by omega
   go_wp2
   go_ret
   exact⟨⟨-1,rfl,⟨fun h=>absurd h (by decide),fun h=>absurd h (no_all HNo.out)⟩⟩,by rw[HG.out];exact HB.out⟩
theorem info258:(Tryz.prog.info? 248).map (fun i=>(i.zero,i.size))=some (some (.agg (Array.replicate 256 (.bool false))),256):=by kernel_rfl
theorem indexAny_iff (s ch:List UInt8):0<=Lib.indexAny s ch ↔ ∃ x ∈ s,x ∈ ch:=by
 induction s with
 | nil=>simp[Lib.indexAny]
 | cons b l ih =>
  unfold Lib.indexAny
  by_cases hb:b ∈ ch
  ·rw[if_pos (by simpa using hb)]
   simp[hb]
  ·rw[if_neg (by simpa using hb)]
   have hge:=Lib.indexAny_ge ch l
   simp only[List.mem_cons,exists_eq_or_imp,hb,false_or]
   rw[<-ih]
   by_cases h1:Lib.indexAny l ch = -1
   ·simp[h1]
   ·have h2:(Lib.indexAny l ch == -1)=false:=beq_eq_false_iff_ne.2 h1
    rw[h2]
    simp only[Bool.false_eq_true,if_false]
    omega
theorem indexAny_any (s ch:ByteArray) (h2:2<=ch.size) (h100:ch.size<=100) (hch:Asc ch) (hs:s.size<=1000000) (w:World) :
  Calls Tryz.prog 121 #[.string s,.string ch] w fun e w'=>(∃ i:Int,e=.returned (.int .i64 i)/\(0<=i ↔ kX s ch))/\Below w.heap.size w w':=by
 by_cases h8:s.size<=8
 ·exact indexAny_short s ch h2 h100 hch h8 w
 ·refine(Any.strings_IndexAny_long Tryz.lays153 (zero_of_info info258).1 (zero_of_info info258).2 s ch w h2 (by omega) (by omega) (by omega) (fun j b hb=>hch.mem (List.mem_of_getElem? hb))).mono ?_
  rintro e w' ⟨rfl,rfl⟩
  exact⟨⟨_,rfl,indexAny_iff _ _⟩,((Below.refl _ w).alloc (Nat.le_refl _) _).alloc (by simp) _⟩
open Classical in
theorem ZQ (s ch:ByteArray) (h2:2<=ch.size) (h100:ch.size<=100) (hch:Asc ch) (hs:s.size<=1000000) (w:World) :
  Calls Tryz.prog 83 #[.string s,.string ch] w fun e w'=>(∃ b:Bool,e=.returned (.bool b)/\(b=true ↔ kX s ch))/\Below w.heap.size w w':=by
 have HI:Hid (Calls Tryz.prog 121 #[.string s,.string ch] w fun e w'=>(∃ i:Int,e=.returned (.int .i64 i)/\(0<=i ↔ kX s ch))/\Below w.heap.size w w'):=indexAny_any s ch h2 h100 hch hs w
 go_enter Tryz.func83,Tryz.ntmps83
 go_wp2_with fail
 refine HI.out.mono ?_
 rintro ev w1 ⟨⟨i,rfl,hi⟩,hb⟩
 have HII:Hid _:=hi
 clear hi
 go_wp2
 go_ret
 exact⟨⟨_,rfl,by rw[<-HII.out];simp⟩,hb⟩
def kN (k:Int):ByteArray:=if k == 1 then ⟨#[99,111,109,109,105,116]⟩ else if k == 2 then ⟨#[116,114,101,101]⟩ else if k == 3 then ⟨#[98,108,111,98]⟩ else if k == 4 then ⟨#[116,97,103]⟩ else ⟨#[]⟩
def h0 (k:Int) (n:Nat):List UInt8:=(kN k).data.toList++32 :: Lib.decDigits n
def hd (k:Int) (n:Nat):List UInt8:=h0 k n++[0]
end Go.Proofs.YtgliaiemkfopeaaGreatDoor
