import Derived.Test.YtdnphaganajejaaGreatDoorMz01
set_option linter.unusedSimpArgs false
set_option linter.unusedVariables false
set_option maxRecDepth 20000
set_option maxHeartbeats 4000000
open List renaming getElem_of_mem->Wy3,mem_cons->Wqj
open Nat renaming le_refl->Wz8,lt_or_ge->Wy4
namespace Go.Proofs.YtdnphaganajejaaGreatDoor
open Go.Proofs.Tryz
open Go.RowKit
theorem Q7 (w:World) (s:ByteArray) (i:Nat):Below w.heap.size w (w.iter s i):=(Below.refl _ w).alloc (Wz8 _) _
def Asc (s:ByteArray):Prop := ∀ j (h:j<s.size),(s[j]'h).toNat<128
theorem G8 (s:ByteArray) (hs:Asc s) (K:s.size<=100) (w:World):Calls prog 145 #[.string s,.int .i32 65533] w fun e w'=>e=.returned (.int .i64 (-1))/\Below w.heap.size w w':=by
 have G:Hid (Asc s):=hs;clear hs;go_enter func145,ntmps145;go_wp2_with fail
 go_loopg [5,6] s.size (fun g _ _ J=>∃ i:Nat,i+g=s.size/\J=w.iter s i);case atStart=>exact⟨0,by omega,rfl⟩
 obtain⟨i,I,rfl⟩:=hrel;cases gk with
 | zero =>
  obtain rfl:i=s.size:=by omega
  have j:=fun ty=>run_next_end (P:=prog) w s s.size ty (Nat.lt_irrefl _);go_wp2;go_ret;exact⟨rfl,Q7 _ _ _⟩
 | succ g =>
  have hi:i<s.size:=by omega
  obtain⟨x,hx⟩:∃ x:UInt8,s[i]'hi=x:=⟨_,rfl⟩;have h:x.toNat<128:=by rw[<-hx];exact G.out i hi
  have j:=fun ty=>run_next_ascii (P:=prog) w s i ty hi (by rw[hx];exact h);rw[hx] at j;have A:¬ (x.toNat:Int)=65533:=by omega
  have D:((x.toNat:Int) == 65533)=false:=by simpa using A
  go_wp2;go_roundg g;case measure=>omega
  case rel=>exact⟨i+1,by omega,rfl⟩
theorem zy2 (h v2:Value) (w:World):(callFunc 184 #[h,v2]).run prog w=.ok (.enter 184 #[h,v2]) w:=by kernel_rfl
theorem qvu (l:List UInt8) (c:UInt8) (h:∀ x ∈ l,x.toNat<128) (hc:128<=c.toNat):Lib.indexByte l c = -1:=by
 induction l with
 | nil=>rfl
 | cons b l A =>
  have hb:=h b (by simp);have j:(b == c)=false:=beq_eq_false_iff_ne.2 (fun e=>by rw[e] at hb;omega);unfold Lib.indexByte;rw[j,A (fun x hx=>h x (by simp[hx]))];rfl
set_option maxRecDepth 1000000 in
theorem Jv (s:ByteArray) (hs:Asc s) (h8:s.size<=100) (r:Nat) (h1:128<=r) (hv:Utf8.valid (r:Int)=true) (ak:r ≠ 65533) (w:World):Calls prog 145 #[.string s,.int .i32 r] w fun e w'=>e=.returned (.int .i64 (-1))/\Below w.heap.size w w':=by
 have HS:Hid (Asc s):=hs;clear hs;have a1:¬ (r:Int)<128:=by omega
 have a2:¬ (r:Int)=65533:=by omega
 have a3:((r:Int) == 65533)=false:=by simpa using a2
 have a7:Lib.validRune (r:Int)=true:=by
  unfold Utf8.valid at hv;unfold Lib.validRune;simp at hv ⊢;omega
 obtain⟨e1,e2,e3⟩:=encode_facts (r:Int) hv (by omega);obtain⟨S,j⟩:∃ S:ByteArray,Utf8.encode (r:Int)=S:=⟨_,rfl⟩;have D:S.size-1<S.size:=by rw[j] at e1;omega
 obtain⟨y,hy⟩:∃ y:UInt8,S[S.size-1]'D=y:=⟨_,rfl⟩;have HY:Hid (128<=y.toNat):=hid (by
  rw[<-hy];have:=e3 (by rw[j];exact D);subst j;exact this)
 rw[j] at e1 e2;clear e3;go_enter func145,ntmps145;go_wp2_with (go_at_call 185;refine(Any.utf8_ValidRune lays119 _ _).mono ?_;rintro ev w' ⟨rfl,rfl⟩;rw[a7])
 obtain⟨L,Q⟩:=nm_ (S.size-1);have ah:(S.size:Int)-1=(L:Int):=by have:=Q.out;omega
 have hL:1<=L/\L<=3:=by have:=Q.out;omega
 go_step3;go_wp2_with fail
 go_loopg [9,10] 1 (fun g v u wr=>g=1/\v=.int .i64 L/\u=.int .i64 0/\wr=w');case atStart=>exact⟨rfl,rfl,rfl,rfl⟩
 obtain⟨rfl,rfl,rfl,K⟩:=hrel;have O:=K.symm;subst O;by_cases G:L<s.size;rotate_left
 ·have I:¬ (L:Int)<s.size:=by omega
  go_wp2;go_ret;exact⟨rfl,Below.refl _ _⟩
 have I:(L:Int)<s.size:=by omega
 obtain⟨x,hx⟩:∃ x:UInt8,s[L]'G=x:=⟨_,rfl⟩;have a8:x.toNat<128:=by rw[<-hx];exact HS.out L G
 have a6:L<S.size:=by have:=Q.out;omega
 have am:S[L]'a6=y:=by have e:=Q.out;subst e;exact hy
 have ac:¬ (x.toNat:Int)=(y.toNat:Int):=by have:=HY.out;omega
 have Y:Hid (∀ (t:ByteArray) (W:World),t=s.extract (L+1) s.size->Calls prog 184 #[.string t,.int .u8 (y.toNat:Int)] W fun e w'=>e=.returned (.int .i64 (-1))/\w'=W):=fun t W ht=>by
  refine(Any.strings_IndexByte lays137 t (y.toNat:Int) W).mono ?_;rintro e ao ⟨rfl,J⟩;refine⟨?_,J⟩;rw[qvu]
  ·intro z hz;rw[ht] at hz;have ad:z ∈ s.data.toList:=by
    rw[Lib.extract_data] at hz;exact List.mem_of_mem_drop (List.mem_of_mem_take hz)
   obtain⟨q,hq,rfl⟩:=Wy3 ad;exact HS.out q (by rw[Lib.size_eq];exact hq)
  have:=HY.out;simpa using this
 have ae:((x.toNat:Int) != (y.toNat:Int))=true:=by simpa using ac
 obtain⟨T,HT⟩:=nm_ (s.extract (L+1) s.size);obtain⟨M,Z⟩:=nm_ (L+1);have K:IntKind.i64.wrap ((L:Int)+1)=(M:Int):=by
  rw[<-Z.out,show ((L:Int)+1)=((L+1:Nat):Int) by omega];exact wrap_i64 (L+1) (by omega)
 have aj:(M:Int)<=s.size:=by have:=Z.out;omega
 have ai:s.extract M s.size=T:=by rw[<-Z.out];exact HT.out
 have ag:L<=3:=hL.2;go_wp2;go_step3;go_wp2;refine wp_region_held_drew (S:=fun _=>True) (by kernel_rfl) trivial (fun h=>?_);refine tV (i:=0) h ?_;try simp only[Act.put,sL]
 refine tV (i:=1) h ?_;try simp only[Act.put,sL]
 refine tV (i:=2) h ?_;try simp only[Act.put,sL]
 refine tV (i:=3) h ?_;try simp only[Act.put,sL]
 refine tV (i:=4) h ?_;try simp only[Act.put,sL]
 refine tV (i:=5) h ?_;try simp only[Act.put,sL]
 refine tV (i:=6) h ?_;try simp only[Act.put,sL]
 refine wpAnyH_done (by kernel_rfl) ?_ _;go_wp2;clear h;refine wp_region_held_drew (S:=fun _=>True) (by kernel_rfl) trivial (fun h=>?_);refine tV (i:=0) h ?_;try simp only[Act.put,sL]
 refine tV (i:=1) h ?_;try simp only[Act.put,sL]
 refine tV (i:=2) h ?_;try simp only[Act.put,sL]
 refine tV (i:=3) h ?_;try simp only[Act.put,sL]
 refine tV (i:=4) h ?_;try simp only[Act.put,sL]
 refine tV (i:=5) h ?_;try simp only[Act.put,sL]
 refine tV (i:=6) h ?_;try simp only[Act.put,sL]
 refine wpAnyH_ready (rs:=[7]) (by kernel_rfl) (by simp) ?_;refine xw rfl (fun KK A=>?_) AllReadyH.nil;refine qY (by rfl) 184 [.tmp 37,.tmp 40] _ [.string T,.int .u8 (y.toNat:Int)] _ (by rfl) (by rfl) (zy2 _ _) (Y.out _ _ HT.out.symm) ?_;rintro e w1 ⟨rfl,rfl⟩;refine⟨_,rfl,?_⟩;refine A.out _ _ h (fun V=>?_);clear A KK;try simp only[Act.put,sL]
 refine tV (i:=8) h ?_;try simp only[Act.put,sL]
 refine wpAnyH_done (by kernel_rfl) ?_ _;go_wp2;simp only[Exit.inBlock,Exit.then,Exit.noGoto_ret];go_ret;exact⟨rfl,⟨rfl,rfl,rfl,Wz8 _,fun _ _=>rfl⟩⟩
end Go.Proofs.YtdnphaganajejaaGreatDoor
namespace Go.Proofs
open Go.Proofs.Tryz
open Go.Shelf
def lays171_ren:Go.Shelf.Ren:=⟨fun | 171=>224 | 243=>241 | 246=>149 | 283=>188 | 284=>189 | 285=>190 | 286=>191 | 129=>137 | 317=>215 | 318=>216 | 319=>217 | 320=>218 | 337=>236 | 338=>237 | n=>n,fun | 3=>3 | 9=>9 | 2=>2 | 4=>4 | 171=>288 | 0=>0 | 53=>237 | 37=>82 | 5=>5 | 173=>290 | 212=>318 | 51=>235 | 20=>20 | 213=>319 | 46=>24 | 232=>342 | 233=>299 | n=>n,fun | 17=>3 | 18=>8 | 19=>9 | n=>n⟩
theorem lays171:Go.Proofs.Lays.n171 prog lays171_ren:={
 mixed:=by kernel_rfl
 f129:=func137.trans (congrArg some (by kernel_rfl))
 f171:=func224.trans (congrArg some (by kernel_rfl))
 f243:=func241.trans (congrArg some (by kernel_rfl))
 f246:=func149.trans (congrArg some (by kernel_rfl))
 f283:=func188.trans (congrArg some (by kernel_rfl))
 f284:=func189.trans (congrArg some (by kernel_rfl))
 f285:=func190.trans (congrArg some (by kernel_rfl))
 f286:=func191.trans (congrArg some (by kernel_rfl))
 f317:=func215.trans (congrArg some (by kernel_rfl))
 f318:=func216.trans (congrArg some (by kernel_rfl))
 f319:=func217.trans (congrArg some (by kernel_rfl))
 f320:=func218.trans (congrArg some (by kernel_rfl))
 f337:=func236.trans (congrArg some (by kernel_rfl))
 f338:=func237.trans (congrArg some (by kernel_rfl))
 t0:=underlying0
 a0:=isAgg0
 z0:=sizeOf0
 v0:=zeroValue0
 t2:=underlying2
 a2:=isAgg2
 z2:=sizeOf2
 v2:=zeroValue2
 t3:=underlying3
 a3:=isAgg3
 z3:=sizeOf3
 v3:=zeroValue3
 t4:=underlying4
 a4:=isAgg4
 z4:=sizeOf4
 v4:=zeroValue4
 t5:=underlying5
 a5:=isAgg5
 z5:=sizeOf5
 v5:=zeroValue5
 t9:=underlying9
 a9:=isAgg9
 z9:=sizeOf9
 v9:=zeroValue9
 t20:=underlying20
 a20:=isAgg20
 z20:=sizeOf20
 v20:=zeroValue20
 t37:=underlying82
 a37:=isAgg82
 z37:=sizeOf82
 v37:=zeroValue82
 t46:=underlying24
 a46:=isAgg24
 z46:=sizeOf24
 v46:=zeroValue24
 t51:=underlying235
 a51:=isAgg235
 z51:=sizeOf235
 v51:=zeroValue235
 t53:=underlying237
 a53:=isAgg237
 z53:=sizeOf237
 v53:=zeroValue237
 t171:=underlying288
 a171:=isAgg288
 z171:=sizeOf288
 v171:=zeroValue288
 t173:=underlying290
 a173:=isAgg290
 z173:=sizeOf290
 v173:=zeroValue290
 t212:=underlying318
 a212:=isAgg318
 z212:=sizeOf318
 v212:=zeroValue318
 t213:=underlying319
 a213:=isAgg319
 z213:=sizeOf319
 t232:=underlying342
 a232:=isAgg342
 z232:=sizeOf342
 v232:=zeroValue342
 t233:=underlying299
 a233:=isAgg299
 z233:=sizeOf299
 v233:=zeroValue299
 g17:=by kernel_rfl
 g18:=by kernel_rfl
 g19:=by kernel_rfl }
def laysM173_ren:Go.Shelf.Ren:=⟨fun | 173=>113 | 246=>149 | 283=>188 | 284=>189 | 285=>190 | 286=>191 | 129=>137 | 317=>215 | 318=>216 | 319=>217 | 320=>218 | 337=>236 | 338=>237 | n=>n,fun | 2=>2 | 3=>3 | 9=>9 | 4=>4 | 171=>288 | 0=>0 | 53=>237 | 37=>82 | 5=>5 | 173=>290 | 212=>318 | 51=>235 | 20=>20 | 213=>319 | 46=>24 | 232=>342 | 233=>299 | n=>n,fun | 17=>3 | 18=>8 | 19=>9 | n=>n⟩
theorem laysM173:Go.Proofs.LaysM.n173 prog laysM173_ren:={
 mixed:=by kernel_rfl
 f129:=func137.trans (congrArg some (by kernel_rfl))
 f173:=func113.trans (congrArg some (by kernel_rfl))
 f246:=func149.trans (congrArg some (by kernel_rfl))
 f283:=func188.trans (congrArg some (by kernel_rfl))
 f284:=func189.trans (congrArg some (by kernel_rfl))
 f285:=func190.trans (congrArg some (by kernel_rfl))
 f286:=func191.trans (congrArg some (by kernel_rfl))
 f317:=func215.trans (congrArg some (by kernel_rfl))
 f318:=func216.trans (congrArg some (by kernel_rfl))
 f319:=func217.trans (congrArg some (by kernel_rfl))
 f320:=func218.trans (congrArg some (by kernel_rfl))
 f337:=func236.trans (congrArg some (by kernel_rfl))
 f338:=func237.trans (congrArg some (by kernel_rfl))
 t0:=underlying0
 a0:=isAgg0
 z0:=sizeOf0
 v0:=zeroValue0
 t2:=underlying2
 a2:=isAgg2
 z2:=sizeOf2
 v2:=zeroValue2
 t3:=underlying3
 a3:=isAgg3
 z3:=sizeOf3
 v3:=zeroValue3
 t4:=underlying4
 a4:=isAgg4
 z4:=sizeOf4
 v4:=zeroValue4
 t5:=underlying5
 a5:=isAgg5
 z5:=sizeOf5
 v5:=zeroValue5
 t9:=underlying9
 a9:=isAgg9
 z9:=sizeOf9
 v9:=zeroValue9
 t20:=underlying20
 a20:=isAgg20
 z20:=sizeOf20
 v20:=zeroValue20
 t37:=underlying82
 a37:=isAgg82
 z37:=sizeOf82
 v37:=zeroValue82
 t46:=underlying24
 a46:=isAgg24
 z46:=sizeOf24
 v46:=zeroValue24
 t51:=underlying235
 a51:=isAgg235
 z51:=sizeOf235
 v51:=zeroValue235
 t53:=underlying237
 a53:=isAgg237
 z53:=sizeOf237
 v53:=zeroValue237
 t171:=underlying288
 a171:=isAgg288
 z171:=sizeOf288
 v171:=zeroValue288
 t173:=underlying290
 a173:=isAgg290
 z173:=sizeOf290
 v173:=zeroValue290
 t212:=underlying318
 a212:=isAgg318
 z212:=sizeOf318
 v212:=zeroValue318
 t213:=underlying319
 a213:=isAgg319
 z213:=sizeOf319
 t232:=underlying342
 a232:=isAgg342
 z232:=sizeOf342
 v232:=zeroValue342
 t233:=underlying299
 a233:=isAgg299
 z233:=sizeOf299
 v233:=zeroValue299
 g17:=by kernel_rfl
 g18:=by kernel_rfl
 g19:=by kernel_rfl
 i0:=by kernel_rfl
 i2:=by kernel_rfl
 i3:=by kernel_rfl
 i4:=by kernel_rfl
 i5:=by kernel_rfl
 i9:=by kernel_rfl
 i20:=by kernel_rfl
 i37:=by kernel_rfl
 i46:=by kernel_rfl
 i51:=by kernel_rfl
 i53:=by kernel_rfl
 i171:=by kernel_rfl
 i173:=by kernel_rfl
 i212:=by kernel_rfl
 i232:=by kernel_rfl
 i233:=by kernel_rfl
 m17:=by kernel_rfl
 m18:=by kernel_rfl
 m19:=by kernel_rfl }
def lays160_ren:Go.Shelf.Ren:=⟨fun | 160=>144 | 232=>179 | 231=>178 | 227=>147 | 234=>181 | 233=>180 | 236=>183 | 235=>182 | 228=>148 | 271=>214 | 151=>121 | 197=>213 | 120=>235 | 152=>145 | 260=>234 | 137=>184 | 119=>185 | 224=>186 | 225=>187 | 217=>201 | 266=>227 | n=>n,fun | 9=>9 | 4=>4 | 3=>3 | 5=>5 | 117=>250 | 116=>249 | 0=>0 | 124=>284 | 21=>21 | 105=>315 | 46=>24 | 119=>338 | 139=>341 | 138=>340 | n=>n,fun | 3=>6 | 4=>7 | n=>n⟩
theorem lays160:Go.Proofs.Lays.n160 prog lays160_ren:={
 mixed:=by kernel_rfl
 f119:=func185.trans (congrArg some (by kernel_rfl))
 f120:=func235.trans (congrArg some (by kernel_rfl))
 f137:=func184.trans (congrArg some (by kernel_rfl))
 f151:=func121.trans (congrArg some (by kernel_rfl))
 f152:=func145.trans (congrArg some (by kernel_rfl))
 f160:=func144.trans (congrArg some (by kernel_rfl))
 f197:=func213.trans (congrArg some (by kernel_rfl))
 f217:=func201.trans (congrArg some (by kernel_rfl))
 f224:=func186.trans (congrArg some (by kernel_rfl))
 f225:=func187.trans (congrArg some (by kernel_rfl))
 f227:=func147.trans (congrArg some (by kernel_rfl))
 f228:=func148.trans (congrArg some (by kernel_rfl))
 f231:=func178.trans (congrArg some (by kernel_rfl))
 f232:=func179.trans (congrArg some (by kernel_rfl))
 f233:=func180.trans (congrArg some (by kernel_rfl))
 f234:=func181.trans (congrArg some (by kernel_rfl))
 f235:=func182.trans (congrArg some (by kernel_rfl))
 f236:=func183.trans (congrArg some (by kernel_rfl))
 f260:=func234.trans (congrArg some (by kernel_rfl))
 f266:=func227.trans (congrArg some (by kernel_rfl))
 f271:=func214.trans (congrArg some (by kernel_rfl))
 t0:=underlying0
 a0:=isAgg0
 z0:=sizeOf0
 v0:=zeroValue0
 t3:=underlying3
 a3:=isAgg3
 z3:=sizeOf3
 v3:=zeroValue3
 t4:=underlying4
 a4:=isAgg4
 z4:=sizeOf4
 v4:=zeroValue4
 t5:=underlying5
 a5:=isAgg5
 z5:=sizeOf5
 v5:=zeroValue5
 t9:=underlying9
 a9:=isAgg9
 z9:=sizeOf9
 v9:=zeroValue9
 t21:=underlying21
 a21:=isAgg21
 z21:=sizeOf21
 v21:=zeroValue21
 t46:=underlying24
 a46:=isAgg24
 z46:=sizeOf24
 v46:=zeroValue24
 t105:=underlying315
 a105:=isAgg315
 z105:=sizeOf315
 v105:=zeroValue315
 t116:=underlying249
 a116:=isAgg249
 z116:=sizeOf249
 t117:=underlying250
 a117:=isAgg250
 z117:=sizeOf250
 v117:=zeroValue250
 t119:=underlying338
 a119:=isAgg338
 z119:=sizeOf338
 t124:=underlying284
 a124:=isAgg284
 z124:=sizeOf284
 v124:=zeroValue284
 t138:=underlying340
 a138:=isAgg340
 z138:=sizeOf340
 v138:=zeroValue340
 t139:=underlying341
 a139:=isAgg341
 z139:=sizeOf341
 v139:=zeroValue341
 g3:=by kernel_rfl
 g4:=by kernel_rfl }
def lays153_ren:Go.Shelf.Ren:=⟨fun | 153=>112 | 152=>145 | 226=>146 | 227=>147 | 228=>148 | 137=>184 | 119=>185 | 224=>186 | 225=>187 | 217=>201 | 266=>227 | n=>n,fun | 9=>9 | 3=>3 | 4=>4 | 5=>5 | 21=>21 | 117=>250 | 116=>249 | 0=>0 | 46=>24 | 124=>284 | n=>n,fun | n=>n⟩
theorem lays153:Go.Proofs.Lays.n153 prog lays153_ren:={
 mixed:=by kernel_rfl
 f119:=func185.trans (congrArg some (by kernel_rfl))
 f137:=func184.trans (congrArg some (by kernel_rfl))
 f152:=func145.trans (congrArg some (by kernel_rfl))
 f153:=func112.trans (congrArg some (by kernel_rfl))
 f217:=func201.trans (congrArg some (by kernel_rfl))
 f224:=func186.trans (congrArg some (by kernel_rfl))
 f225:=func187.trans (congrArg some (by kernel_rfl))
 f226:=func146.trans (congrArg some (by kernel_rfl))
 f227:=func147.trans (congrArg some (by kernel_rfl))
 f228:=func148.trans (congrArg some (by kernel_rfl))
 f266:=func227.trans (congrArg some (by kernel_rfl))
 t0:=underlying0
 a0:=isAgg0
 z0:=sizeOf0
 v0:=zeroValue0
 t3:=underlying3
 a3:=isAgg3
 z3:=sizeOf3
 v3:=zeroValue3
 t4:=underlying4
 a4:=isAgg4
 z4:=sizeOf4
 v4:=zeroValue4
 t5:=underlying5
 a5:=isAgg5
 z5:=sizeOf5
 v5:=zeroValue5
 t9:=underlying9
 a9:=isAgg9
 z9:=sizeOf9
 v9:=zeroValue9
 t21:=underlying21
 a21:=isAgg21
 z21:=sizeOf21
 v21:=zeroValue21
 t46:=underlying24
 a46:=isAgg24
 z46:=sizeOf24
 v46:=zeroValue24
 t116:=underlying249
 a116:=isAgg249
 z116:=sizeOf249
 t117:=underlying250
 a117:=isAgg250
 z117:=sizeOf250
 v117:=zeroValue250
 t124:=underlying284
 a124:=isAgg284
 z124:=sizeOf284
 v124:=zeroValue284 }
def lays152_ren:Go.Shelf.Ren:=⟨fun | 152=>145 | 137=>184 | 119=>185 | 224=>186 | 225=>187 | 217=>201 | 266=>227 | n=>n,fun | 9=>9 | 21=>21 | 3=>3 | 4=>4 | 5=>5 | 0=>0 | 46=>24 | n=>n,fun | n=>n⟩
theorem lays152:Go.Proofs.Lays.n152 prog lays152_ren:={
 mixed:=by kernel_rfl
 f119:=func185.trans (congrArg some (by kernel_rfl))
 f137:=func184.trans (congrArg some (by kernel_rfl))
 f152:=func145.trans (congrArg some (by kernel_rfl))
 f217:=func201.trans (congrArg some (by kernel_rfl))
 f224:=func186.trans (congrArg some (by kernel_rfl))
 f225:=func187.trans (congrArg some (by kernel_rfl))
 f266:=func227.trans (congrArg some (by kernel_rfl))
 t0:=underlying0
 a0:=isAgg0
 z0:=sizeOf0
 v0:=zeroValue0
 t3:=underlying3
 a3:=isAgg3
 z3:=sizeOf3
 v3:=zeroValue3
 t4:=underlying4
 a4:=isAgg4
 z4:=sizeOf4
 v4:=zeroValue4
 t5:=underlying5
 a5:=isAgg5
 z5:=sizeOf5
 v5:=zeroValue5
 t9:=underlying9
 a9:=isAgg9
 z9:=sizeOf9
 v9:=zeroValue9
 t21:=underlying21
 a21:=isAgg21
 z21:=sizeOf21
 v21:=zeroValue21
 t46:=underlying24
 a46:=isAgg24
 z46:=sizeOf24
 v46:=zeroValue24 }
def laysC174_ren:Go.Shelf.Ren:=⟨fun | 174=>138 | 247=>170 | 245=>171 | 287=>204 | 279=>205 | 280=>206 | 281=>207 | 282=>208 | 321=>229 | 322=>230 | 316=>231 | 171=>224 | 205=>232 | 243=>241 | 246=>149 | 283=>188 | 284=>189 | 285=>190 | 286=>191 | 129=>137 | 317=>215 | 318=>216 | 319=>217 | 320=>218 | 337=>236 | 338=>237 | n=>n,fun | 9=>9 | 3=>3 | 2=>2 | 75=>27 | 85=>238 | 4=>4 | 167=>308 | 5=>5 | 53=>237 | 175=>309 | 46=>24 | 168=>311 | 37=>82 | 0=>0 | 210=>334 | 21=>21 | 127=>296 | 145=>337 | 143=>335 | 171=>288 | 173=>290 | 212=>318 | 51=>235 | 20=>20 | 213=>319 | 232=>342 | 233=>299 | 80=>262 | n=>n,fun | 15=>4 | 16=>5 | 17=>3 | 18=>8 | 19=>9 | n=>n⟩
theorem laysC174:Go.Proofs.LaysC.n174 prog laysC174_ren:={
 mixed:=by kernel_rfl
 f129:=func137.trans (congrArg some (by kernel_rfl))
 f171:=func224.trans (congrArg some (by kernel_rfl))
 f174:=func138.trans (congrArg some (by kernel_rfl))
 f205:=func232.trans (congrArg some (by kernel_rfl))
 f243:=func241.trans (congrArg some (by kernel_rfl))
 f245:=func171.trans (congrArg some (by kernel_rfl))
 f246:=func149.trans (congrArg some (by kernel_rfl))
 f247:=func170.trans (congrArg some (by kernel_rfl))
 f279:=func205.trans (congrArg some (by kernel_rfl))
 f280:=func206.trans (congrArg some (by kernel_rfl))
 f281:=func207.trans (congrArg some (by kernel_rfl))
 f282:=func208.trans (congrArg some (by kernel_rfl))
 f283:=func188.trans (congrArg some (by kernel_rfl))
 f284:=func189.trans (congrArg some (by kernel_rfl))
 f285:=func190.trans (congrArg some (by kernel_rfl))
 f286:=func191.trans (congrArg some (by kernel_rfl))
 f287:=func204.trans (congrArg some (by kernel_rfl))
 f316:=func231.trans (congrArg some (by kernel_rfl))
 f317:=func215.trans (congrArg some (by kernel_rfl))
 f318:=func216.trans (congrArg some (by kernel_rfl))
 f319:=func217.trans (congrArg some (by kernel_rfl))
 f320:=func218.trans (congrArg some (by kernel_rfl))
 f321:=func229.trans (congrArg some (by kernel_rfl))
 f322:=func230.trans (congrArg some (by kernel_rfl))
 f337:=func236.trans (congrArg some (by kernel_rfl))
 f338:=func237.trans (congrArg some (by kernel_rfl))
 t0:=underlying0
 a0:=isAgg0
 z0:=sizeOf0
 v0:=zeroValue0
 t2:=underlying2
 a2:=isAgg2
 z2:=sizeOf2
 v2:=zeroValue2
 t3:=underlying3
 a3:=isAgg3
 z3:=sizeOf3
 v3:=zeroValue3
 t4:=underlying4
 a4:=isAgg4
 z4:=sizeOf4
 v4:=zeroValue4
 t5:=underlying5
 a5:=isAgg5
 z5:=sizeOf5
 v5:=zeroValue5
 t9:=underlying9
 a9:=isAgg9
 z9:=sizeOf9
 v9:=zeroValue9
 t20:=underlying20
 a20:=isAgg20
 z20:=sizeOf20
 v20:=zeroValue20
 t21:=underlying21
 a21:=isAgg21
 z21:=sizeOf21
 v21:=zeroValue21
 t37:=underlying82
 a37:=isAgg82
 z37:=sizeOf82
 v37:=zeroValue82
 t46:=underlying24
 a46:=isAgg24
 z46:=sizeOf24
 v46:=zeroValue24
 t51:=underlying235
 a51:=isAgg235
 z51:=sizeOf235
 v51:=zeroValue235
 t53:=underlying237
 a53:=isAgg237
 z53:=sizeOf237
 v53:=zeroValue237
 t75:=underlying27
 a75:=isAgg27
 z75:=sizeOf27
 v75:=zeroValue27
 t85:=underlying238
 a85:=isAgg238
 z85:=sizeOf238
 v85:=zeroValue238
 t127:=underlying296
 a127:=isAgg296
 z127:=sizeOf296
 v127:=zeroValue296
 t143:=underlying335
 a143:=isAgg335
 z143:=sizeOf335
 v143:=zeroValue335
 t145:=underlying337
 a145:=isAgg337
 z145:=sizeOf337
 v145:=zeroValue337
 t167:=underlying308
 a167:=isAgg308
 z167:=sizeOf308
 v167:=zeroValue308
 t168:=underlying311
 a168:=isAgg311
 z168:=sizeOf311
 v168:=zeroValue311
 t171:=underlying288
 a171:=isAgg288
 z171:=sizeOf288
 v171:=zeroValue288
 t173:=underlying290
 a173:=isAgg290
 z173:=sizeOf290
 v173:=zeroValue290
 t175:=underlying309
 a175:=isAgg309
 z175:=sizeOf309
 v175:=zeroValue309
 t210:=underlying334
 a210:=isAgg334
 z210:=sizeOf334
 v210:=zeroValue334
 t212:=underlying318
 a212:=isAgg318
 z212:=sizeOf318
 v212:=zeroValue318
 t213:=underlying319
 a213:=isAgg319
 z213:=sizeOf319
 t232:=underlying342
 a232:=isAgg342
 z232:=sizeOf342
 v232:=zeroValue342
 t233:=underlying299
 a233:=isAgg299
 z233:=sizeOf299
 v233:=zeroValue299
 g15:=by kernel_rfl
 g16:=by kernel_rfl
 g17:=by kernel_rfl
 g18:=by kernel_rfl
 g19:=by kernel_rfl
 t80:=underlying262
 a80:=isAgg262
 z80:=sizeOf262
 v80:=zeroValue262
 i0:=by kernel_rfl
 i2:=by kernel_rfl
 i3:=by kernel_rfl
 i4:=by kernel_rfl
 i5:=by kernel_rfl
 i9:=by kernel_rfl
 i20:=by kernel_rfl
 i21:=by kernel_rfl
 i37:=by kernel_rfl
 i46:=by kernel_rfl
 i51:=by kernel_rfl
 i53:=by kernel_rfl
 i75:=by kernel_rfl
 i80:=by kernel_rfl
 i85:=by kernel_rfl
 i127:=by kernel_rfl
 i143:=by kernel_rfl
 i145:=by kernel_rfl
 i167:=by kernel_rfl
 i168:=by kernel_rfl
 i171:=by kernel_rfl
 i173:=by kernel_rfl
 i175:=by kernel_rfl
 i210:=by kernel_rfl
 i212:=by kernel_rfl
 i232:=by kernel_rfl
 i233:=by kernel_rfl
 m15:=by kernel_rfl
 m16:=by kernel_rfl
 m17:=by kernel_rfl
 m18:=by kernel_rfl
 m19:=by kernel_rfl
 c0:=by kernel_rfl
 c2:=by kernel_rfl
 c3:=by kernel_rfl
 c4:=by kernel_rfl
 c5:=by kernel_rfl
 c9:=by kernel_rfl
 c20:=by kernel_rfl
 c21:=by kernel_rfl
 c37:=by kernel_rfl
 c46:=by kernel_rfl
 c51:=by kernel_rfl
 c53:=by kernel_rfl
 c75:=by kernel_rfl
 c80:=by kernel_rfl
 c85:=by kernel_rfl
 c127:=by kernel_rfl
 c143:=by kernel_rfl
 c145:=by kernel_rfl
 c167:=by kernel_rfl
 c168:=by kernel_rfl
 c171:=by kernel_rfl
 c173:=by kernel_rfl
 c175:=by kernel_rfl
 c210:=by kernel_rfl
 c212:=by kernel_rfl
 c213:=by kernel_rfl
 c232:=by kernel_rfl
 c233:=by kernel_rfl }
def laysC172_ren:Go.Shelf.Ren:=⟨fun | 172=>242 | 244=>243 | 245=>171 | 247=>170 | 279=>205 | 280=>206 | 281=>207 | 282=>208 | 287=>204 | 316=>231 | 171=>224 | 205=>232 | 321=>229 | 322=>230 | 243=>241 | 246=>149 | 283=>188 | 284=>189 | 285=>190 | 286=>191 | 129=>137 | 317=>215 | 318=>216 | 319=>217 | 320=>218 | 337=>236 | 338=>237 | n=>n,fun | 9=>9 | 3=>3 | 75=>27 | 76=>259 | 4=>4 | 5=>5 | 167=>308 | 37=>82 | 0=>0 | 85=>238 | 2=>2 | 168=>311 | 53=>237 | 175=>309 | 46=>24 | 210=>334 | 127=>296 | 145=>337 | 143=>335 | 21=>21 | 171=>288 | 173=>290 | 212=>318 | 51=>235 | 20=>20 | 213=>319 | 232=>342 | 233=>299 | 80=>262 | n=>n,fun | 15=>4 | 16=>5 | 17=>3 | 18=>8 | 19=>9 | n=>n⟩
theorem laysC172:Go.Proofs.LaysC.n172 prog laysC172_ren:={
 mixed:=by kernel_rfl
 f129:=func137.trans (congrArg some (by kernel_rfl))
 f171:=func224.trans (congrArg some (by kernel_rfl))
 f172:=func242.trans (congrArg some (by kernel_rfl))
 f205:=func232.trans (congrArg some (by kernel_rfl))
 f243:=func241.trans (congrArg some (by kernel_rfl))
 f244:=func243.trans (congrArg some (by kernel_rfl))
 f245:=func171.trans (congrArg some (by kernel_rfl))
 f246:=func149.trans (congrArg some (by kernel_rfl))
 f247:=func170.trans (congrArg some (by kernel_rfl))
 f279:=func205.trans (congrArg some (by kernel_rfl))
 f280:=func206.trans (congrArg some (by kernel_rfl))
 f281:=func207.trans (congrArg some (by kernel_rfl))
 f282:=func208.trans (congrArg some (by kernel_rfl))
 f283:=func188.trans (congrArg some (by kernel_rfl))
 f284:=func189.trans (congrArg some (by kernel_rfl))
 f285:=func190.trans (congrArg some (by kernel_rfl))
 f286:=func191.trans (congrArg some (by kernel_rfl))
 f287:=func204.trans (congrArg some (by kernel_rfl))
 f316:=func231.trans (congrArg some (by kernel_rfl))
 f317:=func215.trans (congrArg some (by kernel_rfl))
 f318:=func216.trans (congrArg some (by kernel_rfl))
 f319:=func217.trans (congrArg some (by kernel_rfl))
 f320:=func218.trans (congrArg some (by kernel_rfl))
 f321:=func229.trans (congrArg some (by kernel_rfl))
 f322:=func230.trans (congrArg some (by kernel_rfl))
 f337:=func236.trans (congrArg some (by kernel_rfl))
 f338:=func237.trans (congrArg some (by kernel_rfl))
 t0:=underlying0
 a0:=isAgg0
 z0:=sizeOf0
 v0:=zeroValue0
 t2:=underlying2
 a2:=isAgg2
 z2:=sizeOf2
 v2:=zeroValue2
 t3:=underlying3
 a3:=isAgg3
 z3:=sizeOf3
 v3:=zeroValue3
 t4:=underlying4
 a4:=isAgg4
 z4:=sizeOf4
 v4:=zeroValue4
 t5:=underlying5
 a5:=isAgg5
 z5:=sizeOf5
 v5:=zeroValue5
 t9:=underlying9
 a9:=isAgg9
 z9:=sizeOf9
 v9:=zeroValue9
 t20:=underlying20
 a20:=isAgg20
 z20:=sizeOf20
 v20:=zeroValue20
 t21:=underlying21
 a21:=isAgg21
 z21:=sizeOf21
 v21:=zeroValue21
 t37:=underlying82
 a37:=isAgg82
 z37:=sizeOf82
 v37:=zeroValue82
 t46:=underlying24
 a46:=isAgg24
 z46:=sizeOf24
 v46:=zeroValue24
 t51:=underlying235
 a51:=isAgg235
 z51:=sizeOf235
 v51:=zeroValue235
 t53:=underlying237
 a53:=isAgg237
 z53:=sizeOf237
 v53:=zeroValue237
 t75:=underlying27
 a75:=isAgg27
 z75:=sizeOf27
 v75:=zeroValue27
 t76:=underlying259
 a76:=isAgg259
 z76:=sizeOf259
 v76:=zeroValue259
 t85:=underlying238
 a85:=isAgg238
 z85:=sizeOf238
 v85:=zeroValue238
 t127:=underlying296
 a127:=isAgg296
 z127:=sizeOf296
 v127:=zeroValue296
 t143:=underlying335
 a143:=isAgg335
 z143:=sizeOf335
 v143:=zeroValue335
 t145:=underlying337
 a145:=isAgg337
 z145:=sizeOf337
 v145:=zeroValue337
 t167:=underlying308
 a167:=isAgg308
 z167:=sizeOf308
 v167:=zeroValue308
 t168:=underlying311
 a168:=isAgg311
 z168:=sizeOf311
 v168:=zeroValue311
 t171:=underlying288
 a171:=isAgg288
 z171:=sizeOf288
 v171:=zeroValue288
 t173:=underlying290
 a173:=isAgg290
 z173:=sizeOf290
 v173:=zeroValue290
 t175:=underlying309
 a175:=isAgg309
 z175:=sizeOf309
 v175:=zeroValue309
 t210:=underlying334
 a210:=isAgg334
 z210:=sizeOf334
 v210:=zeroValue334
 t212:=underlying318
 a212:=isAgg318
 z212:=sizeOf318
 v212:=zeroValue318
 t213:=underlying319
 a213:=isAgg319
 z213:=sizeOf319
 t232:=underlying342
 a232:=isAgg342
 z232:=sizeOf342
 v232:=zeroValue342
 t233:=underlying299
 a233:=isAgg299
 z233:=sizeOf299
 v233:=zeroValue299
 g15:=by kernel_rfl
 g16:=by kernel_rfl
 g17:=by kernel_rfl
 g18:=by kernel_rfl
 g19:=by kernel_rfl
 t80:=underlying262
 a80:=isAgg262
 z80:=sizeOf262
 v80:=zeroValue262
 i0:=by kernel_rfl
 i2:=by kernel_rfl
 i3:=by kernel_rfl
 i4:=by kernel_rfl
 i5:=by kernel_rfl
 i9:=by kernel_rfl
 i20:=by kernel_rfl
 i21:=by kernel_rfl
 i37:=by kernel_rfl
 i46:=by kernel_rfl
 i51:=by kernel_rfl
 i53:=by kernel_rfl
 i75:=by kernel_rfl
 i76:=by kernel_rfl
 i80:=by kernel_rfl
 i85:=by kernel_rfl
 i127:=by kernel_rfl
 i143:=by kernel_rfl
 i145:=by kernel_rfl
 i167:=by kernel_rfl
 i168:=by kernel_rfl
 i171:=by kernel_rfl
 i173:=by kernel_rfl
 i175:=by kernel_rfl
 i210:=by kernel_rfl
 i212:=by kernel_rfl
 i232:=by kernel_rfl
 i233:=by kernel_rfl
 m15:=by kernel_rfl
 m16:=by kernel_rfl
 m17:=by kernel_rfl
 m18:=by kernel_rfl
 m19:=by kernel_rfl
 c0:=by kernel_rfl
 c2:=by kernel_rfl
 c3:=by kernel_rfl
 c4:=by kernel_rfl
 c5:=by kernel_rfl
 c9:=by kernel_rfl
 c20:=by kernel_rfl
 c21:=by kernel_rfl
 c37:=by kernel_rfl
 c46:=by kernel_rfl
 c51:=by kernel_rfl
 c53:=by kernel_rfl
 c75:=by kernel_rfl
 c76:=by kernel_rfl
 c80:=by kernel_rfl
 c85:=by kernel_rfl
 c127:=by kernel_rfl
 c143:=by kernel_rfl
 c145:=by kernel_rfl
 c167:=by kernel_rfl
 c168:=by kernel_rfl
 c171:=by kernel_rfl
 c173:=by kernel_rfl
 c175:=by kernel_rfl
 c210:=by kernel_rfl
 c212:=by kernel_rfl
 c213:=by kernel_rfl
 c232:=by kernel_rfl
 c233:=by kernel_rfl }
end Go.Proofs
namespace Go.Proofs.YtdnphaganajejaaGreatDoor
open Go.Proofs.Tryz
open Go.RowKit
theorem GY (s:ByteArray) (q:Nat) (h:q<s.size):s.data.toList.getD q 0=s[q]'h:=by
 rw[List.getD_eq_getElem?_getD,Lib.data_getElem? s q h];rfl
theorem Ok (s:ByteArray) (pos:Nat) (h:pos<s.size) (A:128<=(s[pos]'h).toNat) :
  128<=(Utf8.decode s pos).1/\Utf8.valid ((Utf8.decode s pos).1:Int)=true/\1<=(Utf8.decode s pos).2/\pos+(Utf8.decode s pos).2<=s.size/\∀ q,pos<=q->q<pos+(Utf8.decode s pos).2->128<=(s.data.toList.getD q 0).toNat:=by
 obtain⟨D,G⟩:=decode_high s pos h A;have I:=Lib.decode_N s pos;have hsz:=Lib.size_eq s;have j:128<=(s.data.toList.getD pos 0).toNat:=by rw[GY s pos h];exact A
 have hv:=Lib.decodeN_valid (s.data.toList.length-pos) (s.data.toList.getD pos 0).toNat (s.data.toList.getD (pos+1) 0).toNat (s.data.toList.getD (pos+2) 0).toNat (s.data.toList.getD (pos+3) 0).toNat (UInt8.toNat_lt _)
 have L:=Lib.decodeN_width_le (s.data.toList.length-pos) (s.data.toList.getD pos 0).toNat (s.data.toList.getD (pos+1) 0).toNat (s.data.toList.getD (pos+2) 0).toNat (s.data.toList.getD (pos+3) 0).toNat (by omega)
 have hc:=Lib.decodeN_conts (s.data.toList.length-pos) (s.data.toList.getD pos 0).toNat (s.data.toList.getD (pos+1) 0).toNat (s.data.toList.getD (pos+2) 0).toNat (s.data.toList.getD (pos+3) 0).toNat
 rw[<-I] at hv L hc;obtain⟨c1,c2,c3,c4⟩:=hc;refine⟨D,?_,G,by omega,fun q J K=>?_⟩
 ·unfold Utf8.valid;simp;omega
 have e:q=pos ∨ q=pos+1 ∨ q=pos+2 ∨ q=pos+3:=by omega
 rcases e with rfl | rfl | rfl | rfl
 ·exact j
 ·have:=c1 (by omega);omega
 ·have:=c2 (by omega);omega
 have:=c3 (by omega);omega
def No (s ch:ByteArray) (i:Nat):Prop := ∀ q,q<i->s.data.toList.getD q 0 ∉ ch.data.toList
theorem Asc.mem {ch:ByteArray} (h:Asc ch) {x:UInt8} (hx:x ∈ ch.data.toList):x.toNat<128:=by
 obtain⟨q,j,rfl⟩:=Wy3 hx;exact h q (by rw[Lib.size_eq];exact j)
theorem V1 {B:Nat} {w0 w:World} {k:Nat} {s:ByteArray} {p:Nat} (h:Below B w0 w) (D:B<=k):Below B w0 (w.iterAt k s p) :=
 ⟨h.os,h.tape,h.output,by simp[World.iterAt];exact h.size,fun j A=>by
  show (w.heap.setIfInBounds k _)[j]? = _
  rw[Array.getElem?_setIfInBounds_ne (by omega)]
  exact h.block j A⟩
theorem G9 (l:List UInt8) (c:UInt8) : -1<=Lib.indexByte l c:=by
 induction l with
 | nil=>simp[Lib.indexByte]
 | cons b l h =>
  unfold Lib.indexByte;split
  ·decide
  split
  ·exact Int.le_refl _
  omega
theorem Gz (l:List UInt8) (c:UInt8):(0<=Lib.indexByte l c) ↔ c ∈ l:=by
 induction l with
 | nil=>simp[Lib.indexByte]
 | cons b l D =>
  unfold Lib.indexByte;by_cases hb:b=c
  ·subst hb;simp
  have h:(b == c)=false:=beq_eq_false_iff_ne.2 hb;rw[h];simp only[Bool.false_eq_true,if_false,Wqj,Ne.symm hb,false_or];rw[<-D];by_cases j:Lib.indexByte l c = -1
  ·simp[j]
  have A:(Lib.indexByte l c == -1)=false:=beq_eq_false_iff_ne.2 j;rw[A];simp only[Bool.false_eq_true,if_false];have:=G9 l c;omega
def Zz (s ch:ByteArray):Prop := ∃ x ∈ s.data.toList,x ∈ ch.data.toList
theorem qvZ {s ch:ByteArray} (h:No s ch s.size):¬ Zz s ch:=by
 rintro⟨x,hx,hc⟩;obtain⟨q,j,rfl⟩:=Wy3 hx;refine h q (by rw[Lib.size_eq];exact j) ?_;rw[List.getD_eq_getElem?_getD,List.getElem?_eq_getElem j];exact hc
theorem Jw (s ch:ByteArray) (h2:2<=ch.size) (O:ch.size<=100) (ai:Asc ch) (h8:s.size<=8) (w:World) :
  Calls prog 112 #[.string s,.string ch] w fun e w'=>(∃ i:Int,e=.returned (.int .i64 i)/\(0<=i ↔ Zz s ch))/\Below w.heap.size w w':=by
 have Y:Hid (Asc ch):=ai;clear ai;have ao:ch.toList.isEmpty=false:=by
  rw[Lib.toList_data];cases h:ch.data.toList with
  | nil=>have:=Lib.size_eq ch;rw[h,List.length_nil] at this;omega
  | cons _ _=>rfl
 have av:((ch.size:Int) == 1)=false:=beq_eq_false_iff_ne.2 (by omega);have ap:¬ (ch.size:Int)=1:=by omega
 have ar:¬ (8:Int)<(s.size:Int):=by omega
 obtain⟨G,HG⟩:=nm_ w.heap.size;go_enter func112,ntmps112;go_wp2;rw[HG.out];have Q:(w.iter s 0).heap[G]? = some (.stringIter s 0):=by rw[<-HG.out];exact World.iter_heap w s 0
 have ak:Hid (Below G w (w.iter s 0)):=hid (by rw[<-HG.out];exact Q7 w s 0);go_loopg [9,10] s.size (fun g _ _ wx=>∃ i:Nat,i<=s.size/\g=s.size-i/\wx.heap[G]? = some (.stringIter s i)/\Hid (Below G w wx)/\Hid (No s ch i));case atStart=>exact⟨0,Nat.zero_le _,rfl,Q,ak,fun q hq=>by omega⟩
 obtain⟨i,hi,hg,hit,HB,Z⟩:=hrel;clear Q;have au:G<wr.heap.size:=by
  rcases Wy4 G wr.heap.size with h | h
  ·exact h
  rw[Array.getElem?_eq_none h] at hit;cases hit
 by_cases I:i<s.size;rotate_left
 ·have J:=fun ty=>Lib.run_next_end_at (P:=prog) wr G s i ty hit I;obtain rfl:i=s.size:=by omega
  go_wp2;go_ret;exact⟨⟨-1,rfl,⟨fun h=>absurd h (by decide),fun h=>absurd h (qvZ Z.out)⟩⟩,by rw[HG.out];exact HB.out⟩
 obtain⟨x,hx⟩:∃ x:UInt8,s[i]'I=x:=⟨_,rfl⟩;have a8:s.data.toList.getD i 0=x:=by rw[GY s i I,hx]
 by_cases a7:x.toNat<128
 ·have J:=fun ty=>Lib.run_next_ascii_at (P:=prog) wr G s i ty hit I (by rw[hx];exact a7);rw[hx] at J;obtain⟨w1,D⟩:=nm_ (wr.iterAt G s (i+1));have A:w1.heap[G]? = some (.stringIter s (i+1)):=by rw[<-D.out];exact Lib.iterAt_heap wr G s i (i+1) hit
  have M:Hid (Below G w w1):=hid (by rw[<-D.out];exact V1 HB.out (Wz8 _));rw[D.out] at J;have a6:((x.toNat:Int)).toNat.toUInt8=x:=by simp
  have K:Hid (∀ W,Calls prog 145 #[.string ch,.int .i32 (x.toNat:Int)] W fun e w'=>e=.returned (.int .i64 (Lib.indexByte ch.data.toList x))/\w'=W):=fun W=>by
   have:=Any.strings_IndexRune_ascii lays152 ch (x.toNat:Int) W (by omega) (by omega);rw[a6] at this;exact this
  obtain⟨j,HJ⟩:=nm_ (Lib.indexByte ch.data.toList x);rw[HJ.out] at K;have V:Hid (0<=j ↔ x ∈ ch.data.toList):=hid (by rw[<-HJ.out];exact Gz _ _);clear hit hx;by_cases hj:0<=j
  ·go_wp2_with (go_at_call 145;refine(K.out _).mono ?_;rintro ev w' ⟨rfl,rfl⟩)
   go_ret;refine⟨⟨(i:Int),rfl,⟨fun _=>⟨x,?_,V.out.1 hj⟩,fun _=>by omega⟩⟩,by rw[HG.out];exact M.out⟩;rw[<-a8,List.getD_eq_getElem?_getD,List.getElem?_eq_getElem (by rw[<-Lib.size_eq];exact I)];exact List.getElem_mem _
  have L:Hid (No s ch (i+1)):=fun q hq=>by
   rcases Wy4 q i with h | h
   ·exact Z.out q h
   obtain rfl:q=i:=(by omega);rw[a8];exact fun hm=>hj (V.out.2 hm)
  go_wp2_with (go_at_call 145;refine(K.out _).mono ?_;rintro ev w' ⟨rfl,rfl⟩)
  go_roundg (s.size-(i+1));case measure=>omega
  case rel=>exact⟨i+1,by omega,rfl,A,M,L⟩
 obtain⟨e1,e2,e3,e4,e5⟩:=Ok s i I (by rw[hx];omega);have J:=fun ty=>Lib.run_next_any_at (P:=prog) wr G s i ty hit I;obtain⟨rn,ac⟩:=nm_ ((Utf8.decode s i).1);obtain⟨wd,ad⟩:=nm_ ((Utf8.decode s i).2);rw[ac.out] at e1 e2;rw[ad.out] at e3 e4 e5;rw[ac.out,ad.out] at J;obtain⟨w1,D⟩:=nm_ (wr.iterAt G s (i+wd))
 have A:w1.heap[G]? = some (.stringIter s (i+wd)):=by rw[<-D.out];exact Lib.iterAt_heap wr G s i (i+wd) hit
 have M:Hid (Below G w w1):=hid (by rw[<-D.out];exact V1 HB.out (Wz8 _));rw[D.out] at J;have K:Hid (∀ W,Calls prog 145 #[.string ch,.int .i32 (rn:Int)] W fun e w'=>e=.returned (.int .i64 (-1))/\Below W.heap.size W w'):=fun W=>by
  by_cases ae:rn=65533
  ·rw[ae];exact G8 ch Y.out O W
  exact Jv ch Y.out O rn e1 e2 ae W
 have L:Hid (No s ch (i+wd)):=fun q hq=>by
  rcases Wy4 q i with h | h
  ·exact Z.out q h
  intro hm;have:=Y.out.mem hm;have:=e5 q h hq;omega
 have ag:G<w1.heap.size:=by
  rcases Wy4 G w1.heap.size with h | h
  ·exact h
  rw[Array.getElem?_eq_none h] at A;cases A
 clear hit hx a8 e5 e2;go_wp2_with (go_at_call 145;refine(K.out _).mono ?_;rintro ev w2 ⟨rfl,ah⟩)
 have aj:w2.heap[G]? = some (.stringIter s (i+wd)):=(ah.block G ag).trans A;have am:Hid (Below G w w2):=M.out.trans (ah.mono (Nat.le_of_lt ag));go_roundg (s.size-(i+wd));case measure=>omega
 case rel=>exact⟨i+wd,e4,rfl,aj,am,L⟩
theorem Tw:(prog.info? 249).map (fun i=>(i.zero,i.size))=some (some (.agg (Array.replicate 256 (.bool false))),256):=by kernel_rfl
theorem Ty (s ch:List UInt8):0<=Lib.indexAny s ch ↔ ∃ x ∈ s,x ∈ ch:=by
 induction s with
 | nil=>simp[Lib.indexAny]
 | cons b l D =>
  unfold Lib.indexAny;by_cases hb:b ∈ ch
  ·rw[if_pos (by simpa using hb)];simp[hb]
  rw[if_neg (by simpa using hb)];have A:=Lib.indexAny_ge ch l;simp only[Wqj,exists_eq_or_imp,hb,false_or];rw[<-D];by_cases h:Lib.indexAny l ch = -1
  ·simp[h]
  have j:(Lib.indexAny l ch == -1)=false:=beq_eq_false_iff_ne.2 h;rw[j];simp only[Bool.false_eq_true,if_false];omega
theorem Tu (s ch:ByteArray) (D:2<=ch.size) (h:ch.size<=100) (A:Asc ch) (hs:s.size<=1000000) (w:World) :
  Calls prog 112 #[.string s,.string ch] w fun e w'=>(∃ i:Int,e=.returned (.int .i64 i)/\(0<=i ↔ Zz s ch))/\Below w.heap.size w w':=by
 by_cases G:s.size<=8
 ·exact Jw s ch D h A G w
 refine(Any.strings_IndexAny_long lays153 (zero_of_info Tw).1 (zero_of_info Tw).2 s ch w D (by omega) (by omega) (by omega) (fun j b hb=>A.mem (List.mem_of_getElem? hb))).mono ?_;rintro e w' ⟨rfl,rfl⟩;exact⟨⟨_,rfl,Ty _ _⟩,((Below.refl _ w).alloc (Wz8 _) _).alloc (by simp) _⟩
open Classical in
theorem Qy (s ch:ByteArray) (G:2<=ch.size) (h:ch.size<=100) (A:Asc ch) (hs:s.size<=1000000) (w:World) :
  Calls prog 88 #[.string s,.string ch] w fun e w'=>(∃ b:Bool,e=.returned (.bool b)/\(b=true ↔ Zz s ch))/\Below w.heap.size w w':=by
 have D:Hid (Calls prog 112 #[.string s,.string ch] w fun e w'=>(∃ i:Int,e=.returned (.int .i64 i)/\(0<=i ↔ Zz s ch))/\Below w.heap.size w w'):=Tu s ch G h A hs w;go_enter func88,ntmps88;go_wp2_with fail
 refine D.out.mono ?_;rintro I w1 ⟨⟨i,rfl,hi⟩,hb⟩;have j:Hid _:=hi;clear hi;go_wp2;go_ret;exact⟨⟨_,rfl,by rw[<-j.out];simp⟩,hb⟩
def kN (k:Int):ByteArray:=if k == 1 then ⟨#[99,111,109,109,105,116]⟩ else if k == 2 then ⟨#[116,114,101,101]⟩ else if k == 3 then ⟨#[98,108,111,98]⟩ else if k == 4 then ⟨#[116,97,103]⟩ else ⟨#[]⟩
def h0 (k:Int) (n:Nat):List UInt8:=(kN k).data.toList++32 :: Lib.decDigits n
def hd (k:Int) (n:Nat):List UInt8:=h0 k n++[0]
end Go.Proofs.YtdnphaganajejaaGreatDoor
