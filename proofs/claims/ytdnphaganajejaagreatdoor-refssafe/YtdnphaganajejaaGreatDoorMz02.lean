import Derived.Test.YtdnphaganajejaaGreatDoorMz01
set_option linter.unusedSimpArgs false
set_option linter.unusedVariables false
set_option maxRecDepth 20000
set_option maxHeartbeats 4000000
open Int renaming toNat_natCast->Wzq
open List renaming all_cons->Wzx,flatMap_append->Wzj,flatMap_cons->Wzk,isPrefixOf->Wzv,length->Wzw,length_append->Wzy,length_cons->Wzu,length_eq_zero_iff->WzZ,length_nil->WzQ,length_pos_iff->WzX,length_take->WzJ,map_cons->WzK,map_nil->WzV,map_toArray->WzW,singleton_append->WzY,take_of_length_le->Wq0
open Nat renaming add_mul->Wq1,le_refl->Wz8,le_trans->Wz9,lt_of_lt_of_le->Wq2,min_eq_left->Wq3,min_eq_right->Wq4,mul_comm->Wq5,mul_le_mul->Wq6,zero_add->Wzz
open Option renaming map_some->Wq7,some->Wq8,toList_some->Wq9
namespace Go.Proofs.YtdnphaganajejaaGreatDoor.Nm
open Go.Proofs.Tryz
def spl:List UInt8->List (List UInt8)
 | []=>[[]]
 | c :: t=>if c=47 then [] :: spl t else match spl t with
  | []=>[[c]]
  | p :: ps=>(c :: p) :: ps
theorem VX:∀ s,spl s ≠ []
 | []=>by simp[spl]
 | c :: t=>by
  rw[spl];split
  ·simp
  split <;> simp
theorem Zx:∀ s:List UInt8,(Lib.index s [47] = -1/\spl s=[s]) ∨ ∃ i:Nat,Lib.index s [47]=i/\i<s.length/\s=s.take i++47 :: s.drop (i+1)/\spl s=s.take i :: spl (s.drop (i+1))
 | []=>.inl ⟨by decide,by simp[spl]⟩
 | c :: t=>by
  by_cases hc:c=47
  ·subst hc;refine .inr ⟨0,?_,by simp,by simp,?_⟩
   ·rw[Lib.index];simp[Wzv]
   rw[spl];simp
  have D:([47] : List UInt8).isPrefixOf (c :: t)=false:=by
   simp[Wzv];exact fun h=>hc h.symm
  rcases Zx t with ⟨j,A⟩ | ⟨i,j,A,G,I⟩
  ·refine .inl ⟨?_,?_⟩
   ·rw[Lib.index,D,j];rfl
   rw[spl,if_neg hc,A]
  refine .inr ⟨i+1,?_,by simp;exact A,?_,?_⟩
  ·rw[Lib.index,D,j];have:¬ ((i:Int) == -1)=true:=(by simp);rw[if_neg (by decide),if_neg this];omega
  ·simp;exact G
  rw[spl,if_neg hc,I];simp
theorem J9:∀ (k:Nat) (s:List UInt8),(spl s).length<=k+1->Lib.splitK [47] 0 k s=spl s
 | 0,s,h=>by
  rcases Zx s with ⟨j,A⟩ | ⟨i,j,A,G,D⟩
  ·rw[A];rfl
  ·rw[D,Wzu] at h
   have:=WzX.2 (VX (s.drop (i+1)))
   omega
 | k+1,s,h=>by
  rcases Zx s with ⟨j,A⟩ | ⟨i,j,A,G,D⟩
  ·rw[Lib.splitK,j,A];rfl
  ·rw[D] at h
   rw[Lib.splitK,j,D]
   have:¬ ((i:Int) == -1)=true:=by simp
   rw[if_neg this]
   simp only[Wzq,Nat.add_zero,Wzu,WzQ,Wzz]
   rw[J9 k _ (by simp at h;omega)]
theorem YQ:∀ (f:Nat) (s:List UInt8),s.length+1<=f->(spl s).length=Lib.countFrom [47] f s+1
 | 0,s,h=>by omega
 | f+1,s,h=>by
  rcases Zx s with ⟨j,A⟩ | ⟨i,j,A,G,D⟩
  ·rw[Lib.countFrom,j,A];rfl
  rw[Lib.countFrom,j,D];have:¬ ((i:Int) == -1)=true:=by simp
  rw[if_neg this];simp only[Wzq,Wzu,WzQ,Wzz];have:=YQ f (s.drop (i+1)) (by rw[List.length_drop];omega);omega
theorem Oq (s:List UInt8):Lib.split s [47]=spl s:=J9 _ s (by rw[YQ (s.length+1) s (Wz8 _)];exact Wz8 _)
def xV (a b:UInt8):List UInt8->Bool
 | x :: y :: t=>(x == a && y == b) || xV a b (y :: t)
 | _=>false
theorem Z9 (a b:UInt8):∀ s:List UInt8,Lib.contains s [a,b]=xV a b s
 | []=>by simp[Lib.contains,Lib.index,xV]
 | [x]=>by simp[Lib.contains,Lib.index,xV,Wzv]
 | x :: y :: t=>by
  have G:=Z9 a b (y :: t);rw[xV,<-G,Lib.contains,Lib.contains,Lib.index];have D:=Lib.index_ge (y :: t) [a,b];by_cases h:([a,b] : List UInt8).isPrefixOf (x :: y :: t)=true
  ·rw[if_pos h];have:(x == a && y == b)=true:=by
    simp[Wzv] at h ⊢;exact⟨h.1.symm,h.2.symm⟩
   rw[this];simp
  rw[if_neg h];have:(x == a && y == b)=false:=by
   rw[Bool.eq_false_iff];intro j;apply h;simp[Wzv] at j ⊢;exact⟨j.1.symm,j.2.symm⟩
  rw[this,Bool.false_or];by_cases A:Lib.index (y :: t) [a,b] = -1
  ·rw[A];rfl
  rw[if_neg (by simpa using A)];rw[decide_eq_decide];omega
def partOk (p:List UInt8):Bool := !p.isEmpty && !Lib.hasPrefix p [46] && !Lib.hasSuffix p [46,108,111,99,107]
def byteOk (c:UInt8):Bool:=decide (33<=c.toNat) && decide (c.toNat<=126) && !([126,94,58,63,42,91,92] : List UInt8).contains c
def dgo:List UInt8->Option UInt8->List UInt8->Bool
 | cur,_,[]=>partOk cur
 | cur,pv,c :: t=>if c=47 then partOk cur && dgo [] (some 47) t else byteOk c && !(c == 46 && pv == some 46) && !(c == 123 && pv == some 64) && dgo (cur++[c]) (some c) t
def G6 (cur t:List UInt8):List (List UInt8):=match spl t with
 | []=>[cur]
 | p :: ps=>(cur++p) :: ps
theorem Ly (t:List UInt8):G6 [] t=spl t:=by
 unfold G6;split
 ·rename_i h;exact absurd h (VX t)
 rename_i h;rw[h];simp
theorem NW (a b x:UInt8) (t:List UInt8) (y:UInt8):xV a b (x :: y :: t)=((x == a && y == b) || xV a b (y :: t)):=rfl
theorem Ej (a b:UInt8) (pv:Option UInt8) (c:UInt8) (t:List UInt8):xV a b (pv.toList++c :: t)=((c == b && pv == some a) || xV a b (c :: t)):=by
 cases pv with
 | none=>simp
 | some x =>
  show xV a b (x :: c :: t)=_;rw[NW];congr 1;rw[Bool.and_comm];simp
theorem NY:∀ (t cur:List UInt8) (pv:Option UInt8),dgo cur pv t=((G6 cur t).all partOk && t.all byteOk && !xV 46 46 (pv.toList++t) && !xV 64 123 (pv.toList++t))
 | [],cur,pv=>by
  cases pv <;> simp[dgo,G6,spl,xV]
 | c :: t,cur,pv=>by
  rw[dgo,Ej,Ej]
  by_cases hc:c=47
  ·subst hc
   rw[if_pos rfl,NY t [] (some 47),Ly]
   have e1:G6 cur (47 :: t)=cur :: spl t:=by simp[G6,spl]
   have j:byteOk 47=true:=by decide
   rw[e1,Wzx,Wzx,j]
   simp only[Wq9,WzY]
   have A:((47:UInt8) == 46)=false:=by decide
   have D:((47:UInt8) == 123)=false:=by decide
   rw[A,D]
   simp only[Bool.false_and,Bool.false_or,Bool.true_and]
   cases partOk cur <;> simp
  ·rw[if_neg hc,NY t (cur++[c]) (some c)]
   have e1:G6 (cur++[c]) t=G6 cur (c :: t):=by
    unfold G6
    rw[spl,if_neg hc]
    split
    ·rename_i h;exact absurd h (VX t)
    ·rename_i h;simp
   rw[e1,Wzx]
   simp only[Wq9,WzY]
   cases byteOk c <;> cases (G6 cur (c :: t)).all partOk <;> cases (c == 46 && pv == some 46) <;> cases (c == 123 && pv == some 64) <;> simp
def docOk (s:List UInt8):Bool:=decide (s.length<=60) && decide (6<=s.length) && (s.take 5 == [114,101,102,115,47]) && !Lib.hasSuffix s [46] && dgo [] none s
def prgOk (s:List UInt8):Bool:=decide (s.length<=60) && ((spl s).all partOk && ((spl s).headD [] == [114,101,102,115]) && decide (1<(spl s).length)) && s.all byteOk && !Lib.contains s [46,46] && !Lib.contains s [64,123] && !Lib.hasSuffix s [46]
theorem zqy (s:List UInt8) (G:(spl s).all partOk=true):(((spl s).headD [] == [114,101,102,115]) && decide (1<(spl s).length))=(decide (6<=s.length) && (s.take 5 == [114,101,102,115,47])):=by
 rw[Bool.eq_iff_iff];simp only[Bool.and_eq_true,beq_iff_eq,decide_eq_true_eq];constructor
 ·rintro⟨j,A⟩;rcases Zx s with ⟨_,e⟩ | ⟨i,_,hi,hs,e⟩
  ·rw[e] at A;simp at A
  rw[e] at j G;simp at j;rw[j] at hs;have D:s.drop (i+1) ≠ []:=by
   intro h;rw[h] at G;simp[spl,partOk] at G
  rw[hs];have:=WzX.2 D;constructor
  ·simp only[Wzy,Wzu,WzQ];omega
  simp
 rintro⟨j,A⟩;have hs:s=[114,101,102,115,47]++s.drop 5:=by
  rw[<-A,List.take_append_drop]
 obtain⟨t,I⟩:∃ t,t=s.drop 5:=⟨_,rfl⟩;rw[<-I] at hs;have e:spl s=[114,101,102,115] :: spl t:=by
  rw[hs];simp[spl]
 rw[e];have:=WzX.2 (VX t);refine⟨by simp,by simp;omega⟩
theorem zkZ (s:List UInt8):prgOk s=docOk s:=by
 unfold prgOk docOk;rw[NY,Ly,Z9,Z9];simp only[Option.toList_none,List.nil_append];cases h:(spl s).all partOk with
 | false=>simp
 | true =>
  have:=zqy s h;rw[Bool.true_and,this];cases decide (s.length<=60) <;> cases decide (6<=s.length) <;> cases (s.take 5 == [114,101,102,115,47]) <;> cases s.all byteOk <;> cases xV 46 46 s <;> cases xV 64 123 s <;> cases Lib.hasSuffix s [46] <;> rfl
end Go.Proofs.YtdnphaganajejaaGreatDoor.Nm
namespace Go.Proofs.YtdnphaganajejaaGreatDoor.Nm
open Go.Proofs.Tryz
open Go.Shelf
def lays146_ren:Go.Shelf.Ren:=⟨fun | 146=>120 | 221=>159 | 268=>199 | 138=>200 | 143=>122 | 195=>225 | 197=>213 | 218=>226 | 219=>160 | 260=>234 | 217=>201 | 225=>187 | 224=>186 | 267=>202 | 266=>227 | 314=>228 | n=>n,fun | 9=>9 | 31=>98 | 3=>3 | 4=>4 | 0=>0 | 105=>315 | 21=>21 | 5=>5 | 46=>24 | 119=>338 | 139=>341 | 138=>340 | 146=>292 | 51=>235 | n=>n,fun | 1=>2 | 3=>6 | 4=>7 | n=>n⟩
theorem lays146:Go.Proofs.Lays.n146 prog lays146_ren:={
 mixed:=by kernel_rfl
 f138:=func200.trans (congrArg some (by kernel_rfl))
 f143:=func122.trans (congrArg some (by kernel_rfl))
 f146:=func120.trans (congrArg some (by kernel_rfl))
 f195:=func225.trans (congrArg some (by kernel_rfl))
 f197:=func213.trans (congrArg some (by kernel_rfl))
 f217:=func201.trans (congrArg some (by kernel_rfl))
 f218:=func226.trans (congrArg some (by kernel_rfl))
 f219:=func160.trans (congrArg some (by kernel_rfl))
 f221:=func159.trans (congrArg some (by kernel_rfl))
 f224:=func186.trans (congrArg some (by kernel_rfl))
 f225:=func187.trans (congrArg some (by kernel_rfl))
 f260:=func234.trans (congrArg some (by kernel_rfl))
 f266:=func227.trans (congrArg some (by kernel_rfl))
 f267:=func202.trans (congrArg some (by kernel_rfl))
 f268:=func199.trans (congrArg some (by kernel_rfl))
 f314:=func228.trans (congrArg some (by kernel_rfl))
 t0:=underlying0
 a0:=isAgg0
 z0:=sizeOf0
 v0:=zeroValue0
 t3:=underlying3
 a3:=isAgg3
 z3:=sizeOf3
 v3:=zeroValue3
 t4:=underlying4
 a4:=isAgg4
 z4:=sizeOf4
 v4:=zeroValue4
 t5:=underlying5
 a5:=isAgg5
 z5:=sizeOf5
 v5:=zeroValue5
 t9:=underlying9
 a9:=isAgg9
 z9:=sizeOf9
 v9:=zeroValue9
 t21:=underlying21
 a21:=isAgg21
 z21:=sizeOf21
 v21:=zeroValue21
 t31:=underlying98
 a31:=isAgg98
 z31:=sizeOf98
 v31:=zeroValue98
 t46:=underlying24
 a46:=isAgg24
 z46:=sizeOf24
 v46:=zeroValue24
 t51:=underlying235
 a51:=isAgg235
 z51:=sizeOf235
 v51:=zeroValue235
 t105:=underlying315
 a105:=isAgg315
 z105:=sizeOf315
 v105:=zeroValue315
 t119:=underlying338
 a119:=isAgg338
 z119:=sizeOf338
 t138:=underlying340
 a138:=isAgg340
 z138:=sizeOf340
 v138:=zeroValue340
 t139:=underlying341
 a139:=isAgg341
 z139:=sizeOf341
 v139:=zeroValue341
 t146:=underlying292
 a146:=isAgg292
 z146:=sizeOf292
 v146:=zeroValue292
 g1:=by kernel_rfl
 g3:=by kernel_rfl
 g4:=by kernel_rfl }
def lays144_ren:Go.Shelf.Ren:=⟨fun | 144=>98 | 143=>122 | 219=>160 | 217=>201 | 225=>187 | 224=>186 | 267=>202 | 266=>227 | 314=>228 | n=>n,fun | 9=>9 | 4=>4 | 3=>3 | 5=>5 | 46=>24 | 146=>292 | 51=>235 | n=>n,fun | 1=>2 | n=>n⟩
theorem lays144:Go.Proofs.Lays.n144 prog lays144_ren:={
 mixed:=by kernel_rfl
 f143:=func122.trans (congrArg some (by kernel_rfl))
 f144:=func98.trans (congrArg some (by kernel_rfl))
 f217:=func201.trans (congrArg some (by kernel_rfl))
 f219:=func160.trans (congrArg some (by kernel_rfl))
 f224:=func186.trans (congrArg some (by kernel_rfl))
 f225:=func187.trans (congrArg some (by kernel_rfl))
 f266:=func227.trans (congrArg some (by kernel_rfl))
 f267:=func202.trans (congrArg some (by kernel_rfl))
 f314:=func228.trans (congrArg some (by kernel_rfl))
 t3:=underlying3
 a3:=isAgg3
 z3:=sizeOf3
 v3:=zeroValue3
 t4:=underlying4
 a4:=isAgg4
 z4:=sizeOf4
 v4:=zeroValue4
 t5:=underlying5
 a5:=isAgg5
 z5:=sizeOf5
 v5:=zeroValue5
 t9:=underlying9
 a9:=isAgg9
 z9:=sizeOf9
 v9:=zeroValue9
 t46:=underlying24
 a46:=isAgg24
 z46:=sizeOf24
 v46:=zeroValue24
 t51:=underlying235
 a51:=isAgg235
 z51:=sizeOf235
 v51:=zeroValue235
 t146:=underlying292
 a146:=isAgg292
 z146:=sizeOf292
 v146:=zeroValue292
 g1:=by kernel_rfl }
def lays100_ren:Go.Shelf.Ren:=⟨fun | 100=>78 | 207=>108 | n=>n,fun | 9=>9 | 4=>4 | 3=>3 | n=>n,fun | n=>n⟩
theorem lays100:Go.Proofs.Lays.n100 prog lays100_ren:={
 mixed:=by kernel_rfl
 f100:=func78.trans (congrArg some (by kernel_rfl))
 f207:=func108.trans (congrArg some (by kernel_rfl))
 t3:=underlying3
 a3:=isAgg3
 z3:=sizeOf3
 v3:=zeroValue3
 t4:=underlying4
 a4:=isAgg4
 z4:=sizeOf4
 v4:=zeroValue4
 t9:=underlying9
 a9:=isAgg9
 z9:=sizeOf9
 v9:=zeroValue9 }
def lays99_ren:Go.Shelf.Ren:=⟨fun | 99=>66 | 206=>105 | n=>n,fun | 9=>9 | 4=>4 | 3=>3 | n=>n,fun | n=>n⟩
theorem lays99:Go.Proofs.Lays.n99 prog lays99_ren:={
 mixed:=by kernel_rfl
 f99:=func66.trans (congrArg some (by kernel_rfl))
 f206:=func105.trans (congrArg some (by kernel_rfl))
 t3:=underlying3
 a3:=isAgg3
 z3:=sizeOf3
 v3:=zeroValue3
 t4:=underlying4
 a4:=isAgg4
 z4:=sizeOf4
 v4:=zeroValue4
 t9:=underlying9
 a9:=isAgg9
 z9:=sizeOf9
 v9:=zeroValue9 }
def lays151_ren:Go.Shelf.Ren:=⟨fun | 151=>121 | 152=>145 | 137=>184 | 119=>185 | 224=>186 | 225=>187 | 217=>201 | 266=>227 | n=>n,fun | 9=>9 | 21=>21 | 4=>4 | 3=>3 | 5=>5 | 0=>0 | 46=>24 | n=>n,fun | n=>n⟩
theorem lays151:Go.Proofs.Lays.n151 prog lays151_ren:={
 mixed:=by kernel_rfl
 f119:=func185.trans (congrArg some (by kernel_rfl))
 f137:=func184.trans (congrArg some (by kernel_rfl))
 f151:=func121.trans (congrArg some (by kernel_rfl))
 f152:=func145.trans (congrArg some (by kernel_rfl))
 f217:=func201.trans (congrArg some (by kernel_rfl))
 f224:=func186.trans (congrArg some (by kernel_rfl))
 f225:=func187.trans (congrArg some (by kernel_rfl))
 f266:=func227.trans (congrArg some (by kernel_rfl))
 t0:=underlying0
 a0:=isAgg0
 z0:=sizeOf0
 v0:=zeroValue0
 t3:=underlying3
 a3:=isAgg3
 z3:=sizeOf3
 v3:=zeroValue3
 t4:=underlying4
 a4:=isAgg4
 z4:=sizeOf4
 v4:=zeroValue4
 t5:=underlying5
 a5:=isAgg5
 z5:=sizeOf5
 v5:=zeroValue5
 t9:=underlying9
 a9:=isAgg9
 z9:=sizeOf9
 v9:=zeroValue9
 t21:=underlying21
 a21:=isAgg21
 z21:=sizeOf21
 v21:=zeroValue21
 t46:=underlying24
 a46:=isAgg24
 z46:=sizeOf24
 v46:=zeroValue24 }
end Go.Proofs.YtdnphaganajejaaGreatDoor.Nm
namespace Go.Proofs.YtdnphaganajejaaGreatDoor.K
open Go.Proofs.Tryz
open Go.RowKit
abbrev Str:=List UInt8
def sV (s:Str):Value:=.string ⟨s.toArray⟩
theorem Ek {x y:Str} (h:sV x=sV y):x=y:=by
 unfold sV at h;have j:=congrArg ByteArray.data (Value.string.inj h);simpa using j
theorem uj:Maps.Keyed prog 9:=Maps.string_keyed underlying9
theorem Q0 (x:Str) (h:x.length<=4000):keyOf prog 9 (sV x)=some (.string x):=by
 have j:(⟨x.toArray⟩:ByteArray).size<=maxLen:=by simp[ByteArray.size,maxLen];omega
 unfold keyOf sV;rw[underlying9];simp[mapKey,underlying9,j]
theorem Ev {x y:Str} {kl:Lit} (h:keyOf prog 9 (sV x)=some kl) (j:keyOf prog 9 (sV y)=some kl):x=y:=Ek (uj.inj h j)
abbrev RV (v:Value):Option (DataW Value × List MemPlace):=some (.held v,[])
def TM (z:Value) (w:World) (g n:Nat) (M:Str->Option Value):Prop := ∃ D,w.ownsMap (H:=Value) prog 9 RV g n D/\∀ x kl,keyOf prog 9 (sV x)=some kl->Maps.has D kl=(M x).isSome/\D.atKey kl (.held z)=.held ((M x).getD z)
theorem YX (z:Value) (w:World):TM z (w.alloc (.map #[] 0)) w.heap.size 0 (fun _=>none):=⟨_,World.ownsMap_made _ _ _ _,fun x kl _=>by simp[Maps.has,DataW.atKey]⟩
theorem TM.sm {z:Value} {w W:World} {g n:Nat} {M:Str->Option Value} (h:TM z w g n M) (A:W.heap[g]? = w.heap[g]?):TM z W g n M:=by
 obtain⟨D,⟨es,ck,hb,hr⟩,j⟩:=h;exact⟨D,⟨es,ck,A.trans hb,hr⟩,j⟩
theorem TM.lt {z:Value} {w:World} {g n:Nat} {M:Str->Option Value} (h:TM z w g n M):g<w.heap.size:=by obtain⟨D,j,_⟩:=h;exact j.lt
theorem TM.look {z:Value} {w:World} {g n:Nat} {M:Str->Option Value} (h:TM z w g n M) {t e:TypeId} (K:prog.underlying t=some (.map 9 e)) (L:(zeroValue e).run prog w=.ok z w) {x:Str} (hx:x.length<=4000):(Instr.lookup t (.map (some g)) (sV x) true).run prog w=.ok (.tuple #[(M x).getD z,.bool (M x).isSome]) w:=by
 obtain⟨D,I,J⟩:=h;have j:=Q0 x hx;obtain⟨v,ps,A,hv⟩:=I.look_ok uj K L (zd:=.held z) (zp:=[]) rfl j;obtain⟨e1,G⟩:=J x _ j;rw[G] at hv;have:v=(M x).getD z:=by
  have:=congrArg (fun o=>o.map (·.1)) hv;simp only[RV,Wq7] at this;exact DataW.held.inj (Wq8.inj this)
 rw[A,this,e1]
theorem TM.put {z:Value} {w:World} {g n:Nat} {M:Str->Option Value} (h:TM z w g n M) (V:n<=100000) {t e:TypeId} (Q:prog.underlying t=some (.map 9 e)) {x:Str} (hx:x.length<=4000) (v:Value):∃ w',(Instr.mapUpdate t (.map (some g)) (sV x) v).run prog w=.ok () w'/\TM z w' g (n+1) (fun y=>if y=x then some v else M y)/\w.grownBy w' (some g):=by
 obtain⟨D,I,K⟩:=h;have j:=Q0 x hx;obtain⟨w',G,L,O⟩:=I.update uj Q (by unfold maxLen;omega) j (val:=v) (d:=.held v) (ps:=[]) rfl;refine⟨w',G,⟨_,L,fun y J A=>?_⟩,O⟩;simp only;by_cases e:J=.string x
 ·subst e;rw[Maps.has_put_same I.isMap (uj.key j),Maps.atKey_put_same I.isMap (uj.key j),if_pos (Ev A j)];exact⟨rfl,rfl⟩
 rw[Maps.has_put_other e,Maps.atKey_put_other e,if_neg (fun h=>by subst h;rw[j] at A;exact e (Wq8.inj A).symm)];exact K y J A
theorem Zj:prog.underlying 60=some (.map 9 81):=by kernel_rfl
theorem xX:prog.underlying 56=some (.map 9 129):=by kernel_rfl
theorem T6 (w:World):(zeroValue 81).run prog w=.ok (.pointer none) w:=by kernel_rfl
theorem TM.look1 {z:Value} {w:World} {g n:Nat} {M:Str->Option Value} (h:TM z w g n M) {t e:TypeId} (K:prog.underlying t=some (.map 9 e)) (L:(zeroValue e).run prog w=.ok z w) {x:Str} (hx:x.length<=4000):(Instr.lookup t (.map (some g)) (sV x) false).run prog w=.ok ((M x).getD z) w:=by
 obtain⟨D,I,J⟩:=h;have j:=Q0 x hx;obtain⟨v,ps,A,hv⟩:=I.lookup uj K L (zd:=.held z) (zp:=[]) rfl j;obtain⟨e1,G⟩:=J x _ j;rw[G] at hv;have:v=(M x).getD z:=by
  have:=congrArg (fun o=>o.map (·.1)) hv;simp only[RV,Wq7] at this;exact DataW.held.inj (Wq8.inj this)
 rw[A,this]
theorem TM.del {z:Value} {w:World} {g n:Nat} {M:Str->Option Value} (h:TM z w g n M) {t e:TypeId} (Q:prog.underlying t=some (.map 9 e)) {x:Str} (hx:x.length<=4000) (ty:TypeId):∃ w',(Builtin.delete_ #[t,9] ty #[.map (some g),sV x]).run prog w=.ok (.tuple #[]) w'/\TM z w' g n (fun y=>if y=x then none else M y)/\w.grownBy w' (some g):=by
 obtain⟨D,J,K⟩:=h;have A:=Q0 x hx;obtain⟨w',G,L,O⟩:=J.drop uj Q A ty;refine⟨w',G,⟨_,L,fun y I j=>?_⟩,O.grown⟩;simp only;by_cases e:I=.string x
 ·subst e;rw[Maps.has_del_same,Maps.atKey_del_same,if_pos (Ev j A)];exact⟨rfl,rfl⟩
 rw[Maps.has_del_other e,Maps.atKey_del_other e,if_neg (fun h=>by subst h;rw[A] at j;exact e (Wq8.inj j).symm)];exact K y I j
def TR (z:Value) (w:World) (g r n:Nat) (M:Str->Option Value) (L:Str->Bool) (c:Nat):Prop := ∃ D lf,w.ranges (H:=Value) prog 9 RV g r n D lf c/\(∀ x kl,keyOf prog 9 (sV x)=some kl->Maps.has D kl=(M x).isSome/\D.atKey kl (.held z)=.held ((M x).getD z))/\∀ x kl,keyOf prog 9 (sV x)=some kl->lf kl=L x
theorem TR.tm {z:Value} {w:World} {g r n c:Nat} {M:Str->Option Value} {L:Str->Bool} (h:TR z w g r n M L c):TM z w g n M:=by
 obtain⟨D,lf,j,A,_⟩:=h;exact⟨D,j.owns,A⟩
theorem TR.lt {z:Value} {w:World} {g r n c:Nat} {M:Str->Option Value} {L:Str->Bool} (h:TR z w g r n M L c):r<w.heap.size/\r ≠ g:=by
 obtain⟨D,lf,j,_,_⟩:=h;exact⟨j.lt,j.ne⟩
theorem TR.kept {z:Value} {w W:World} {g r n c:Nat} {M:Str->Option Value} {L:Str->Bool} (h:TR z w g r n M L c) (J:W.heap[g]? = w.heap[g]?) (hr:W.heap[r]? = w.heap[r]?):TR z W g r n M L c:=by
 obtain⟨D,lf,⟨es,ck,O,K,c0,hb,F,hs,I,j,rest⟩,A,G⟩:=h;exact⟨D,lf,⟨es,ck,O,K,c0,J.trans hb,F,hs,I,hr.trans j,rest⟩,A,G⟩
theorem TR.left {z:Value} {w:World} {g r n c:Nat} {M:Str->Option Value} {L:Str->Bool} (h:TR z w g r n M L c):w.rangeLeft g r=c:=by
 obtain⟨D,lf,j,_,_⟩:=h;exact j.left_eq
theorem TM.range {z:Value} {w:World} {g n:Nat} {M:Str->Option Value} (h:TM z w g n M) {t e:TypeId} (I:prog.underlying t=some (.map 9 e)):∃ w' c,(Instr.range t (.map (some g))).run prog w=.ok (.pointer (some ⟨w.heap.size,0,none⟩)) w'/\TR z w' g w.heap.size n M (fun x=>(M x).isSome) c/\w.grownBy w' none/\w'.heap.size=w.heap.size+1:=by
 obtain⟨D,A,j⟩:=h;obtain⟨w',r1,r2,J,K⟩:=A.range uj I;exact⟨w',_,r1,⟨D,_,r2,j,fun x kl G=>(j x kl G).1⟩,J,K⟩
theorem TR.next {z:Value} {w:World} {g r n c:Nat} {M:Str->Option Value} {L:Str->Bool} (h:TR z w g r n M L c) (ty:TypeId) :
  (c=0/\(∀ x:Str,x.length<=4000->L x=false)/\(Instr.next (.pointer (some ⟨r,0,none⟩)) false ty).run prog w=.ok (.tuple #[.bool false]) w) ∨
  ∃ x v w' c',L x=true/\M x=some v/\(Instr.next (.pointer (some ⟨r,0,none⟩)) false ty).run prog w=.ok (.tuple #[.bool true,sV x,v]) w'/\TR z w' g r n M (fun y=>L y && decide (y ≠ x)) c'/\c'<c/\w.grownBy w' (some r)/\w'.heap.size=w.heap.size/\(Instr.entry (.pointer (some ⟨r,0,none⟩))).run prog w'=.ok (.tuple #[sV x,v]) w':=by
 obtain⟨D,lf,h1,h2,K⟩:=h;rcases h1.next uj ty with ⟨h0,hl,A⟩ | ⟨key,v,kl,y,w',G,j,V,hv,I,A,a6,Y,Q,hsz,O⟩
 ·exact .inl ⟨h0,fun x hx=>by rw[<-K x _ (Q0 x hx)];exact hl _,A⟩
 obtain⟨x,rfl,rfl,a7⟩:=Maps.keyOf_str underlying9 j;have hy:y=(.held v,[]):=(Wq8.inj hv).symm;subst hy;obtain⟨e1,J⟩:=h2 x _ j;have hM:M x=some v:=by
  rw[Maps.has_true_of_atKey I] at e1;rw[I] at J;cases hm:M x with
  | none=>rw[hm] at e1;cases e1
  | some u=>rw[hm,Option.getD_some] at J;rw[DataW.held.inj J]
 refine .inr ⟨x,v,w',G,(K x _ j).symm.trans V,hM,A,⟨D,_,a6,h2,fun q kq hq=>?_⟩,Y,Q,hsz,O⟩;rw[K q kq hq];obtain⟨q',eq,rfl,_⟩:=Maps.keyOf_str underlying9 hq;have:q=q':=Ek eq;subst this;by_cases Z:q=x <;> simp[Z,Lit.sameKey]
theorem z7 {w:World} {g:Nat} {o:Obj} (h:w.heap[g]? = some o):g<w.heap.size:=by
 rcases Nat.lt_or_ge g w.heap.size with j | j
 ·exact j
 rw[Array.getElem?_eq_none j] at h;cases h
theorem zQ {α:Type} (l:List α) (i:Nat) (d:α) (h:i<l.length):l.getD i d ∈ l:=by
 rw[List.getD_eq_getElem?_getD,List.getElem?_eq_getElem h];exact List.getElem_mem _
theorem qk {α:Type} (d:α) (s:List α) (i:Nat) (h:i<s.length):s.take (i+1)=s.take i++[s.getD i d]:=by
 rw[List.take_add_one,List.getD_eq_getElem?_getD,List.getElem?_eq_getElem h];rfl
section
variable {α : Type} (enc : α → List Value) (k : Nat) (d : α)
structure Px (w:World) (a:Option Addr) (cap:Nat) (l:List α):Prop where
 capl:l.length<=cap
 at_:0<l.length->∃ b off,a=some ⟨b,off,none⟩/\b<w.heap.size/\∀ i,i<l.length->w.rangeAt b (off+i*k) (enc (l.getD i d))
 nil:a=none->cap=0
structure Bx (e:TypeId) (w0 w:World) (B:Nat) (v:Value) (l:List α):Prop where
 below:Below B w0 w
 own:w.ownsRow B e k v l.length (l.flatMap enc)
 le:B<=w.heap.size
end
section
variable {α : Type} {enc : α → List Value} {k : Nat} {d : α}
theorem Px.below {w w':World} {a:Option Addr} {cap:Nat} {l:List α} (h:Px enc k d w a cap l) (hb:Below w.heap.size w w'):Px enc k d w' a cap l :=
 ⟨h.capl,fun h0=>by
  obtain⟨b,off,e1,A,D⟩:=h.at_ h0
  exact⟨b,off,e1,Wq2 A hb.size,fun i hi j v hv=>(hb.cell (p:=⟨b,off+i*k+j,none⟩) A).trans (D i hi j v hv)⟩,h.nil⟩
theorem Px.grown {w w':World} {a:Option Addr} {cap K:Nat} {l:List α} (h:Px enc k d w a cap l) (I:∀ p:Addr,a=some p->p.block ≠ K) (D:w.grownBy w' (some K)):Px enc k d w' a cap l :=
 ⟨h.capl,fun h0=>by
  obtain⟨b,off,e1,A,G⟩:=h.at_ h0
  refine⟨b,off,e1,Wq2 A D.size,fun i hi j v hv=>?_⟩
  rw[World.cell?_of_block (a:=⟨b,off+i*k+j,none⟩) (D.block b A (fun e=>I _ e1 (by cases e;rfl)))]
  exact G i hi j v hv,h.nil⟩
theorem Px.take {w:World} {a:Option Addr} {cap:Nat} {l:List α} (h:Px enc k d w a cap l) (j:Nat):Px enc k d w a cap (l.take j) :=
 ⟨by rw[WzJ];have:=h.capl;omega,fun h0=>by
  rw[WzJ] at h0
  obtain⟨b,off,e1,A,D⟩:=h.at_ (by omega)
  refine⟨b,off,e1,A,fun i hi=>?_⟩
  rw[WzJ] at hi
  have:=D i (by omega)
  rw[show (l.take j).getD i d=l.getD i d by rw[List.getD_eq_getElem?_getD,List.getD_eq_getElem?_getD,List.getElem?_take,if_pos (by omega)]]
  exact this,h.nil⟩
theorem Jz (l:List α) (h:∀ x ∈ l,(enc x).length=k):(l.flatMap enc).length=l.length*k:=by
 induction l with
 | nil=>simp
 | cons x l A =>
  have j:=A (fun y hy=>h y (by simp[hy]));have D:=h x (by simp);simp only[Wzk,Wzy,Wzu,Wq1] at j ⊢;omega
theorem zqu (l:List α) (h:∀ x,∀ v ∈ enc x,v.oneCell'=true):∀ v ∈ l.flatMap enc,v.oneCell'=true:=by
 intro v hv;obtain⟨x,_,hx⟩:=List.mem_flatMap.1 hv;exact h x v hx
theorem Ew:∀ (l:List α) (h:∀ x ∈ l,(enc x).length=k) (i j:Nat),i<l.length->j<k->(l.flatMap enc)[i*k+j]? = (enc (l.getD i d))[j]?
 | [],h,i,j,hi,hj=>by simp at hi
 | x :: r,h,0,j,hi,hj=>by
  have A:=h x (by simp)
  simp only[Wzk,Nat.zero_mul,Wzz]
  rw[List.getElem?_append_left (by omega)]
  rfl
 | x :: r,h,i+1,j,hi,hj=>by
  have A:=h x (by simp)
  have:=Ew r (fun y hy=>h y (by simp[hy])) i j (by simpa using hi) hj
  simp only[Wzk]
  rw[List.getElem?_append_right (by rw[A,Wq1];omega),A,show (i+1)*k+j-k=i*k+j by rw[Wq1];omega,this]
  rfl
theorem Px.cells {w:World} {b off cap:Nat} {l:List α} (L:0<k) (h:Px enc k d w (some ⟨b,off,none⟩) cap l) (I:∀ x ∈ l,(enc x).length=k):∀ (j:Nat) (u:Value),(l.flatMap enc)[j]? = some u->w.cell? ((⟨b,off,none⟩:Addr).add j)=some u:=by
 intro j u G;have A:=(List.getElem?_eq_some_iff.1 G).1;rw[Jz l I] at A;have hd:j / k<l.length:=Nat.div_lt_of_lt_mul (by rw[Wq5];exact A);have M:j % k<k:=Nat.mod_lt _ L;obtain⟨O,J,e1,Q,K⟩:=h.at_ (Nat.lt_of_le_of_lt (Nat.zero_le _) hd);cases e1
 have e:j / k*k+j % k=j:=by rw[Wq5];exact Nat.div_add_mod j k
 have D:=Ew (d:=d) l I (j / k) (j % k) hd M;rw[e,G] at D;have:=K (j / k) hd (j % k) u D.symm;rw[x7,<-this];congr 2;omega
theorem Bx.alloc {e:TypeId} {w0 w:World} {B:Nat} {v:Value} {l:List α} (h:Bx enc k e w0 w B v l) (o:Obj):Bx enc k e w0 (w.alloc o) B v l :=
 ⟨h.below.alloc h.le o,h.own.alloc o,Wz9 h.le (by simp)⟩
theorem uk (e:TypeId) (w:World) (B:Nat) (h:B<=w.heap.size):Bx enc k e w w B (.slice none 0 0) []:=⟨Below.refl _ _,⟨by simp,.inl ⟨rfl,rfl⟩⟩,h⟩
theorem Bx.carry {e:TypeId} {w0 w w':World} {B:Nat} {v:Value} {l:List α} (h:Bx enc k e w0 w B v l) (hb:Below w.heap.size w w'):Bx enc k e w0 w' B v l :=
 ⟨h.below.trans (hb.mono h.le),h.own.kept (row:=none) ⟨hb.os,hb.tape,hb.output,hb.size,fun k j _=>hb.block k j⟩ (by cases h:v.ownBlock <;> simp),Wz9 h.le hb.size⟩
theorem Bx.px {e:TypeId} {w0 w:World} {B:Nat} {v:Value} {l:List α} (h:Bx enc k e w0 w B v l) (L:∀ x ∈ l,(enc x).length=k):∃ a cap,v=.slice a l.length cap/\Px enc k d w a cap l/\(∀ p:Addr,a=some p->B<=p.block/\p.block<w.heap.size)/\(a=none ∨ ∃ b,a=some ⟨b,0,none⟩):=by
 obtain⟨Q,⟨hv,h0⟩ | ⟨g,cap,cur,hv,hb,D,G,M,hsz,K⟩⟩:=h.own
 ·refine⟨none,0,by rw[hv,h0],⟨by omega,fun h=>by omega,fun _=>rfl⟩,(fun p J=>by cases J),.inl rfl⟩
 refine⟨_,cap,hv,⟨G,fun _=>⟨g,0,rfl,z7 D,fun i hi j v hv=>?_⟩,fun e=>by cases e⟩,(fun p J=>by cases J;exact⟨hb,z7 D⟩),.inr ⟨g,rfl⟩⟩;have O:j<k:=by
  have:=(List.getElem?_eq_some_iff.1 hv).1;rw[L _ (zQ l i d hi)] at this;exact this
 have A:=Ew (d:=d) l L i j hi O;rw[hv] at A;rw[Wzz,cell_of_row w g (i*k+j) _ _ _ D];have I:i*k+j<l.length*k:=by
  have:=(List.getElem?_eq_some_iff.1 A).1;rw[Jz l L] at this;exact this
 rw[<-K,List.getElem?_take_of_lt I] at A;simpa using A
end
theorem QV {P:Program} {o:Oper} {a:Act} {w w':World} {t:TypeId} {m k:Operand} {b:Bool} (A:o.op=.lookup t m k b) {mv kv v:Value} (j:a.eval m=mv) (h:a.eval k=kv) (hr:(Instr.lookup t mv kv b).run P w=.ok v w'):(execOp a.eval o).run P w=.ok (.value v) w':=by
 unfold execOp;simp[A,j,h,hr,Result.andThen]
theorem xq {P:Program} {o:Oper} {a:Act} {w w':World} {t:TypeId} {m k x:Operand} (A:o.op=.mapUpdate t m k x) {mv kv v:Value} (j:a.eval m=mv) (h:a.eval k=kv) (hx:a.eval x=v) (hr:(Instr.mapUpdate t mv kv v).run P w=.ok () w'):(execOp a.eval o).run P w=.ok .skip w':=by
 unfold execOp;simp[A,j,h,hx,hr,Result.andThen]
structure Mv (w w':World) (v v':Value):Prop where
 os:w'.os=w.os
 tape:w'.tape=w.tape
 output:w'.output=w.output
 size:w.heap.size<=w'.heap.size
 blk:∀ k,k<w.heap.size->some k ≠ v.ownBlock->w'.heap[k]? = w.heap[k]?
 at_:v'.ownBlock=v.ownBlock ∨ ∀ k,v'.ownBlock=some k->w.heap.size<=k
theorem Mv.refl (w:World) (v:Value):Mv w w v v:=⟨rfl,rfl,rfl,Wz8 _,fun _ _ _=>rfl,.inl rfl⟩
theorem Mv.trans {a b c:World} {u v x:Value} (h:Mv a b u v) (k:Mv b c v x):Mv a c u x:=by
 have hs:=h.size;refine⟨k.os.trans h.os,k.tape.trans h.tape,k.output.trans h.output,Wz9 h.size k.size,fun i hi A=>?_,?_⟩
 ·refine(k.blk i (by omega) (fun e=>?_)).trans (h.blk i hi A);rcases h.at_ with g | g
  ·exact A (e.trans g)
  have:=g i e.symm;omega
 rcases k.at_ with g | g
 ·rcases h.at_ with j | j
  ·exact .inl (g.trans j)
  exact .inr fun i hi=>j i (g ▸ hi)
 exact .inr fun i hi=>by have:=g i hi;omega
theorem Mv.app {w G w1:World} {v D:Value} (h0:w.grownBy G none) (j:G.grownBy w1 v.ownBlock) (I:D.ownBlock=v.ownBlock ∨ D.ownBlock=some G.heap.size):Mv w w1 v D:=by
 have hs:=h0.size;refine⟨j.os.trans h0.os,j.tape.trans h0.tape,j.output.trans h0.output,Wz9 h0.size j.size,fun k A J=>(j.block k (by omega) J).trans (h0.block k A (by simp)),?_⟩;rcases I with h | h
 ·exact .inl h
 exact .inr fun k A=>by rw[h] at A;simp at A;omega
theorem Mv.below {w w':World} {v j:Value} (h:Mv w w' v j) {B:Nat} (hB:∀ k,v.ownBlock=some k->B<=k) (D:B<=w.heap.size):Below B w w' :=
 ⟨h.os,h.tape,h.output,h.size,fun k A=>h.blk k (by omega) (fun e=>by have:=hB k e.symm;omega)⟩
theorem Mv.drew {w w':World} {v j:Value} (h:Mv w w' v j) (n:Nat):Mv w (w'.drewN n) v j:=⟨h.os,h.tape,h.output,h.size,h.blk,h.at_⟩
theorem Mv.grow {A B:World} (v:Value) (h:A.grownBy B none):Mv A B v v:=⟨h.os,h.tape,h.output,h.size,fun k j _=>h.block k j (by simp),.inl rfl⟩
theorem Mv.put {w W:World} {v u:Value} (h:Mv w W v u) {l:Nat} (o:Obj) (D:w.heap.size<=l):Mv w (W.putObj l o) v u :=
 ⟨h.os,h.tape,h.output,by rw[World.putObj_size];exact h.size,fun k j A=>(World.putObj_heap_other (by omega)).trans (h.blk k j A),h.at_⟩
section
variable {α : Type} {enc : α → List Value} {k : Nat}
end
section
variable {α : Type} {enc : α → List Value} {k : Nat} {d : α}
theorem zy {w w0:World} {a6:Array Oper} {rest:List Oper} {o:Oper} {a:Act} {Q:Exit->Act->World->Prop} (G:o.guard=none) (s x:Operand) (t e:TypeId) (O:prog.underlying t=some (.slice e)) {z:Value} {D:Nat} (a8:(prog.info? e).map (fun i=>(i.zero,i.size,i.bytes))=some (some z,k,D)) (hz:z.cells.size=k) (I:0<k) (L:D<=300)
  (M:∀ x,∀ v ∈ enc x,v.oneCell'=true)
  (ho:o.op=.call { callee:=.builtin .append,args:=#[s,x],argTypes:=#[t,t] }) (B:Nat) (v:Value) (l:List α) (hs:a.eval s=v) (h:Bx enc k e w0 w B v l)
  (ax:Option Addr) (cx:Nat) (m:List α) (hx:a.eval x=.slice ax m.length cx) (hP:Px enc k d w ax cx m) (hw:∀ x ∈ m,(enc x).length=k) (hl:l.length+m.length<=1000000000)
  (hK:∀ J w',Bx enc k e w0 w' B J (l++m)->w.grownBy w' v.ownBlock->Mv w w' v J->wpList prog a6 Q rest (a.put o.dst J) w'):wpList prog a6 Q (o :: rest) a w:=by
 obtain⟨i,hi,V,Y,Z⟩:=qQ a8;cases ax with
 | none =>
  have hc:cx=0:=hP.nil rfl;have ae:=hP.capl;obtain rfl:m=[]:=WzZ.1 (by omega);subst hc;refine wpList_plain G fun K a7=>?_;have hr:=run_append_owned_none (P:=prog) w B t o.type e i k O hi v _ _ h.own;unfold Oper.wp execOp;simp only[WzQ] at hx
  simp only[ho,resolve,invoke,builtin,Sem.run_bind,Sem.run_pure,Result.andThen_ok,WzW,WzK,WzV,hs,hx,hr];exact a7 _ _ (hK v w (by simpa using h) ⟨rfl,rfl,rfl,Wz8 _,fun _ _ _=>rfl⟩ (Mv.refl _ _))
 | some ad =>
  obtain⟨bk,of,fr⟩:=ad;by_cases h0:m.length=0
  ·obtain rfl:m=[]:=WzZ.1 h0;refine wpList_append_own_at w G s x t ho B e i z k D O hi V Y Z hz I v _ _ hs h.own ⟨bk,of,fr⟩ 0 cx [] hx (by simp) (fun j u hj=>by cases hj) (fun u O=>by cases O) (by unfold maxLen;omega) (by have A:=Wq6 hl L;exact Wz9 A (by decide)) h.le ?_;intro J w' h1 A h3 h4
   refine hK J w' ⟨h.below.grown A h.le (fun k I=>(yu h.own k I).1),?_,Wz9 h.le A.size⟩ A (Mv.app ⟨rfl,rfl,rfl,Wz8 _,fun _ _ _=>rfl⟩ A h4);simpa using h1
  obtain⟨b',ac,e1,_⟩:=hP.at_ (by omega);cases e1
  refine wpList_append_own_at w G s x t ho B e i z k D O hi V Y Z hz I v _ _ hs h.own ⟨bk,of,none⟩ m.length cx (m.flatMap enc) hx (Jz m hw) (hP.cells I hw) (zqu m M) (by unfold maxLen;omega) (by have A:=Wq6 hl L;exact Wz9 A (by decide)) h.le ?_;intro J w' h1 A h3 h4
  refine hK J w' ⟨h.below.grown A h.le (fun k I=>(yu h.own k I).1),?_,Wz9 h.le A.size⟩ A (Mv.app ⟨rfl,rfl,rfl,Wz8 _,fun _ _ _=>rfl⟩ A h4);rw[Wzy,Wzj];exact h1
end
theorem sL {α:Type} : (∀ (l:List α) (i:Nat) (v:α),l.toArray.setIfInBounds i v=(l.set i v).toArray)/\(∀ (l:List α) (a b:α),(a :: l).set 0 b=b :: l)/\(∀ (l:List α) (n:Nat) (a b:α),(a :: l).set (n+1) b=a :: l.set n b):=⟨fun l i v=>List.setIfInBounds_toArray ..,fun _ _ _=>rfl,fun _ _ _ _=>rfl⟩
theorem z8 {P:Program} {j:Array Oper} {rest:List Oper} {o:Oper} {a:Act} {w w':World} {Q:Exit->Act->World->Prop} (D:o.guard=none) (v:Value) (hr:(execOp a.eval o).run P w=.ok (.value v) w') (h:wpList P j Q rest (a.put o.dst v) w'):wpList P j Q (o :: rest) a w:=by
 refine wpList_plain D fun K A=>?_;unfold Oper.wp;rw[hr];exact A _ _ h
theorem xK {P:Program} {j:Array Oper} {rest:List Oper} {o:Oper} {a:Act} {w w':World} {Q:Exit->Act->World->Prop} (D:o.guard=none) (hr:(execOp a.eval o).run P w=.ok .skip w') (h:wpList P j Q rest (a.put o.dst undef) w'):wpList P j Q (o :: rest) a w:=by
 refine wpList_plain D fun K A=>?_;unfold Oper.wp;rw[hr];exact A _ _ h
theorem GJ {P:Program} {j:Array Oper} {o:Oper} {a:Act} {w w':World} {K:Act->World->Prop} {Q:Exit->Act->World->Prop} {E:Prop} (A:o.guard=none) (hr:(execOp a.eval o).run P w=.ok .skip w') (h:K (a.put o.dst undef) w') :
  if Region.wanted o (yielded j a.tmps)=true then Oper.wp P o a w K Q else E:=by
 have D:Region.wanted o (yielded j a.tmps)=true:=by simp[Region.wanted,A]
 rw[if_pos D];unfold Oper.wp;rw[hr];exact h
theorem Px.mv {α:Type} {enc:α->List Value} {k:Nat} {d:α} {w w':World} {a:Option Addr} {cap:Nat} {l:List α} {v K:Value} (h:Px enc k d w a cap l) (G:Mv w w' v K) (A:∀ p:Addr,a=some p->some p.block ≠ v.ownBlock):Px enc k d w' a cap l :=
 ⟨h.capl,fun h0=>by
  obtain⟨b,off,e1,D,I⟩:=h.at_ h0
  refine⟨b,off,e1,Wq2 D G.size,fun i hi j u J=>?_⟩
  rw[World.cell?_of_block (a:=⟨b,off+i*k+j,none⟩) (G.blk b D (A _ e1))]
  exact I i hi j u J,h.nil⟩
section
variable {α : Type} {enc : α → List Value} {k : Nat} {d : α}
theorem Lu {w w0:World} {o:Oper} {a:Act} (s x:Operand) (t e:TypeId) (L:prog.underlying t=some (.slice e)) {z:Value} {G:Nat} (a6:(prog.info? e).map (fun i=>(i.zero,i.size,i.bytes))=some (some z,k,G)) (hz:z.cells.size=k) (I:0<k) (J:G<=300)
  (K:∀ x,∀ v ∈ enc x,v.oneCell'=true)
  (ho:o.op=.call { callee:=.builtin .append,args:=#[s,x],argTypes:=#[t,t] }) (B:Nat) (v:Value) (l:List α) (hs:a.eval s=v) (h:Bx enc k e w0 w B v l)
  (V:Option Addr) (cx:Nat) (m:List α) (hx:a.eval x=.slice V m.length cx) (Y:Px enc k d w V cx m) (hw:∀ x ∈ m,(enc x).length=k) (hl:l.length+m.length<=1000000000) :
  ∃ D w',(execOp a.eval o).run prog w=.ok (.value D) w'/\Bx enc k e w0 w' B D (l++m)/\Mv w w' v D:=by
 obtain⟨i,hi,M,O,Q⟩:=qQ a6;have key:∀ D w',(Builtin.append_ #[t,t] o.type #[v,.slice V m.length cx]).run prog w=.ok D w'->(execOp a.eval o).run prog w=.ok (.value D) w':=fun D w' hr=>by
  unfold execOp;simp only[ho,resolve,invoke,builtin,Sem.run_bind,Sem.run_pure,Result.andThen_ok,WzW,WzK,WzV,hs,hx,hr]
 cases V with
 | none =>
  have hc:cx=0:=Y.nil rfl;have a8:=Y.capl;obtain rfl:m=[]:=WzZ.1 (by omega);subst hc;exact⟨v,w,key _ _ (run_append_owned_none (P:=prog) w B t o.type e i k L hi v _ _ h.own),by simpa using h,Mv.refl _ _⟩
 | some ad =>
  obtain⟨bk,of,fr⟩:=ad;by_cases h0:m.length=0
  ·obtain rfl:m=[]:=WzZ.1 h0;obtain⟨D,w',hr,Z,A,_,h5⟩:=run_append_own_at (P:=prog) w B t o.type e i z k G L hi M O Q hz I v _ _ h.own ⟨bk,of,fr⟩ 0 cx [] (by simp) (fun j u hj=>by cases hj) (fun u L=>by cases L) (by unfold maxLen;omega) (by have A:=Wq6 hl J;exact Wz9 A (by decide)) h.le
   refine⟨D,w',key _ _ hr,⟨h.below.grown A h.le (fun k I=>(yu h.own k I).1),?_,Wz9 h.le A.size⟩,Mv.app ⟨rfl,rfl,rfl,Wz8 _,fun _ _ _=>rfl⟩ A h5⟩;simpa using Z
  obtain⟨b',a7,e1,_⟩:=Y.at_ (by omega);cases e1
  obtain⟨D,w',hr,Z,A,_,h5⟩:=run_append_own_at (P:=prog) w B t o.type e i z k G L hi M O Q hz I v _ _ h.own ⟨bk,of,none⟩ m.length cx (m.flatMap enc) (Jz m hw) (Y.cells I hw) (zqu m K) (by unfold maxLen;omega) (by have A:=Wq6 hl J;exact Wz9 A (by decide)) h.le
  refine⟨D,w',key _ _ hr,⟨h.below.grown A h.le (fun k I=>(yu h.own k I).1),?_,Wz9 h.le A.size⟩,Mv.app ⟨rfl,rfl,rfl,Wz8 _,fun _ _ _=>rfl⟩ A h5⟩;rw[Wzy,Wzj];exact Z
end
theorem Uz {P:Program} {o:Oper} {a:Act} {w w':World} {t k:TypeId} {m x:Operand} (A:o.op=.call { callee:=.builtin .delete,args:=#[m,x],argTypes:=#[t,k] }) {mv kv v:Value} (j:a.eval m=mv) (h:a.eval x=kv) (hr:(Builtin.delete_ #[t,k] o.type #[mv,kv]).run P w=.ok v w'):(execOp a.eval o).run P w=.ok (.value v) w':=by
 unfold execOp;simp[A,resolve,invoke,builtin,j,h,hr,Result.andThen]
theorem vv {P:Program} {o:Oper} {a:Act} {w w':World} {t:TypeId} {m:Operand} (j:o.op=.range t m) {mv v:Value} (h:a.eval m=mv) (hr:(Instr.range t mv).run P w=.ok v w'):(execOp a.eval o).run P w=.ok (.value v) w':=by
 unfold execOp;simp[j,h,hr,Result.andThen]
theorem qW {P:Program} {o:Oper} {a:Act} {w w':World} {m:Operand} (j:o.op=.next m false) {mv v:Value} (h:a.eval m=mv) (hr:(Instr.next mv false o.type).run P w=.ok v w'):(execOp a.eval o).run P w=.ok (.value v) w':=by
 unfold execOp;simp[j,h,hr,Result.andThen]
end Go.Proofs.YtdnphaganajejaaGreatDoor.K
namespace Go.Proofs.YtdnphaganajejaaGreatDoor.Ra
open Go.Proofs.Tryz
variable {σ : Type} [DecidableEq σ]
abbrev Bs:=List Int
def nm1 (f:σ->Option Nat) (m:σ × Option Nat):σ->Option Nat:=fun y=>if y=m.1 then m.2 else f y
def nmL (f:σ->Option Nat) (l:List (σ × Option Nat)):σ->Option Nat:=l.foldl nm1 f
def nmS (f:σ->Option Nat) (ls:List (List (σ × Option Nat))):σ->Option Nat:=ls.foldl nmL f
structure As (σ:Type) where
 now:σ->Option Nat
 saf:σ->Option Nat
 mvs:List (List (σ × Option Nat))
 nd:Nat->Option (Bs × Nat)
def As.at_ (a:As σ) (k:Nat):σ->Option Nat:=nmS a.saf (a.mvs.take k)
structure Wf (a:As σ):Prop where
 full:a.at_ a.mvs.length=a.now
 dom:∀ k x B,a.at_ k x=some B->∃ c,a.nd B=some c
 inj:∀ k x y B,a.at_ k x=some B->a.at_ k y=some B->x=y
 le:∀ B z s,a.nd B=some (z,s)->s<=z.length
def ct (a:As σ) (x:σ):Option Bs:=(a.now x).bind fun B=>(a.nd B).map (·.1)
def cr (a:As σ) (x:σ) (c:Option Bs):Prop := ∃ k,match a.at_ k x with
 | none=>c=none
 | some B=>∃ z s m,a.nd B=some (z,s)/\m<=z.length-s/\c=some (z.take (s+m))
def Mid (o z c:Option Bs):Prop:=c=o ∨ c=z ∨ ∃ zo bs m,o=some zo/\z=some (zo++bs)/\c=some (zo++bs.take m)
structure Hs (p:σ) (o z:Option Bs) (a:As σ):Prop where
 now:ct a p=z
 cr:∀ c,cr a p c->Mid o z c
def Sep (p q:σ) (a:As σ):Prop := ∀ k j B,a.at_ k p=some B->a.at_ j q ≠ some B
theorem mid_self (o:Option Bs) (c:Option Bs) (h:Mid o o c):c=o:=by
 rcases h with h | h | ⟨G,bs,m,j,A,D⟩
 ·exact h
 ·exact h
 ·rw[j] at A
  have:=congrArg Wzw (Wq8.inj A)
  simp at this
  subst this
  rw[j,D];simp
omit [DecidableEq σ] in
theorem T7 {α:Type} (l:List α) (x:α) (k:Nat) (h:k<=l.length):(l++[x]).take k=l.take k:=by
 rw[List.take_append_of_le_length h]
theorem qvz (a:As σ) (h:Wf a) (k:Nat) (j:a.mvs.length<=k):a.at_ k=a.now:=by
 have:=h.full;unfold As.at_ at this ⊢;rw[Wq0 j];rwa [Wq0 (Wz8 _)] at this
def As.step (a:As σ) (l:List (σ × Option Nat)):As σ:={ a with now:=nmL a.now l,mvs:=a.mvs++[l] }
theorem at_step (a:As σ) (h:Wf a) (l:List (σ × Option Nat)) (k:Nat):(a.step l).at_ k=if k<=a.mvs.length then a.at_ k else nmL a.now l:=by
 by_cases j:k<=a.mvs.length
 ·rw[if_pos j];unfold As.at_ As.step;rw[T7 _ _ _ j]
 rw[if_neg j];unfold As.at_ As.step;rw[Wq0 (by simp;omega)];unfold nmS;rw[List.foldl_append];have:=h.full;unfold As.at_ nmS at this;rw[Wq0 (Wz8 _)] at this;rw[this];rfl
theorem wf_step (a:As σ) (h:Wf a) (l:List (σ × Option Nat)) (A:∀ x B,nmL a.now l x=some B->∃ c,a.nd B=some c) (D:∀ x y B,nmL a.now l x=some B->nmL a.now l y=some B->x=y):Wf (a.step l):=by
 refine⟨?_,fun k x B=>?_,fun k x y B=>?_,h.le⟩
 ·rw[at_step a h,if_neg (by simp[As.step])];rfl
 ·rw[at_step a h];by_cases j:k<=a.mvs.length
  ·rw[if_pos j];exact h.dom k x B
  rw[if_neg j];exact A x B
 rw[at_step a h];by_cases j:k<=a.mvs.length
 ·rw[if_pos j];exact h.inj k x y B
 rw[if_neg j];exact D x y B
def As.put (a:As σ) (B:Nat) (c:Bs × Nat):As σ:={ a with nd:=fun i=>if i=B then some c else a.nd i }
theorem DK (a:As σ) (B:Nat) (c:Bs × Nat) (k:Nat):(a.put B c).at_ k=a.at_ k:=rfl
theorem wf_put (a:As σ) (h:Wf a) (B:Nat) (c:Bs × Nat) (hc:c.2<=c.1.length):Wf (a.put B c):=by
 refine⟨h.full,fun k x B' hx=>?_,h.inj,fun B' z s j=>?_⟩
 ·obtain⟨D,A⟩:=h.dom k x B' hx;by_cases e:B'=B
  ·exact⟨c,by simp[As.put,e]⟩
  exact⟨D,by simp[As.put,e,A]⟩
 by_cases e:B'=B
 ·simp only[As.put,e,if_true] at j;cases Wq8.inj j
  exact hc
 simp only[As.put,e,if_false] at j;exact h.le B' z s j
def As.sd (a:As σ):As σ:={ a with saf:=a.now,mvs:=[] }
theorem at_sd (a:As σ) (k:Nat):a.sd.at_ k=a.now:=by simp[As.at_,As.sd,nmS]
theorem wf_sd (a:As σ) (h:Wf a):Wf a.sd:=by
 have j:=h.full;refine⟨at_sd _ _,fun k x B=>?_,fun k x y B=>?_,h.le⟩
 ·rw[at_sd,<-j];exact h.dom _ x B
 rw[at_sd,<-j];exact h.inj _ x y B
def As.crash (a:As σ) (k:Nat) (m:Nat->Nat) (dec:∀ B,Decidable (∃ x,a.at_ k x=some B)):As σ:={ now:=a.at_ k,saf:=a.at_ k,mvs:=[],nd:=fun B=>match dec B with
 | .isTrue _=>(a.nd B).map fun c=>(c.1.take (c.2+m (c.1.length-c.2)),(c.1.take (c.2+m (c.1.length-c.2))).length)
 | .isFalse _=>a.nd B }
theorem Ey {p:σ} {o z:Option Bs} {a:As σ} (h:Wf a) (A:Hs p o z a) (l:List (σ × Option Nat)) (D:∀ f,nmL f l p=f p):Hs p o z (a.step l):=by
 refine⟨?_,?_⟩
 ·rw[<-A.now];unfold ct As.step;simp only[D]
 rintro c ⟨k,j⟩;rw[at_step a h] at j;by_cases e:k<=a.mvs.length
 ·rw[if_pos e] at j;exact A.cr c ⟨k,j⟩
 rw[if_neg e,D] at j;refine A.cr c ⟨a.mvs.length,?_⟩;rw[h.full];exact j
theorem zqZ {p:σ} {o z:Option Bs} {a:As σ} (h:Wf a) (D:Hs p o z a) (B:Nat) (c:Bs × Nat) (hB:∀ k,a.at_ k p ≠ some B):Hs p o z (a.put B c):=by
 have L:a.now p ≠ some B:=by rw[<-h.full];exact hB _
 refine⟨?_,?_⟩
 ·rw[<-D.now];unfold ct As.put;cases e:a.now p with
  | none=>rfl
  | some B' =>
   have:B' ≠ B:=fun A=>L (by rw[e,A]);simp[this]
 rintro G ⟨k,j⟩;refine D.cr G ⟨k,?_⟩;rw[DK] at j;cases e:a.at_ k p with
 | none=>rw[e] at j;exact j
 | some B' =>
  have:B' ≠ B:=fun A=>hB k (by rw[e,A]);rw[e] at j;obtain⟨M,s,m,I,J,K⟩:=j;exact⟨M,s,m,by simpa [As.put,this] using I,J,K⟩
theorem hs_sync {p:σ} {o z:Option Bs} {a:As σ} (h:Wf a) (I:Hs p o z a) (B:Nat) (zs:Bs) (s:Nat) (hB:a.nd B=some (zs,s)):Hs p o z (a.put B (zs,zs.length)):=by
 have hs:=h.le B zs s hB;refine⟨?_,?_⟩
 ·rw[<-I.now];unfold ct As.put;cases e:a.now p with
  | none=>rfl
  | some B' =>
   by_cases j:B'=B
   ·subst j;simp[hB]
   simp[j]
 rintro J ⟨k,A⟩;refine I.cr J ⟨k,?_⟩;rw[DK] at A;cases e:a.at_ k p with
 | none=>rw[e] at A;exact A
 | some B' =>
  rw[e] at A;obtain⟨M,L,m,D,K,G⟩:=A;by_cases j:B'=B
  ·subst j;simp only[As.put,if_true] at D;cases Wq8.inj D
   refine⟨zs,s,zs.length-s,hB,Wz8 _,?_⟩;rw[G,Wq0 (by omega),Wq0 (by omega)]
  exact⟨M,L,m,by simpa [As.put,j] using D,K,G⟩
theorem hs_safe {p:σ} {o z:Option Bs} {a:As σ} (h:Wf a) (D:Hs p o z a) (J:∀ B zs s,a.now p=some B->a.nd B=some (zs,s)->s=zs.length):Hs p z z a.sd:=by
 refine⟨D.now,?_⟩;rintro c ⟨k,j⟩;refine .inl ?_;rw[at_sd] at j;rw[<-D.now];unfold ct;have G:a.sd.nd=a.nd:=rfl;rw[G] at j;cases e:a.now p with
 | none=>rw[e] at j;exact j
 | some B =>
  rw[e] at j;obtain⟨K,s,m,A,L,I⟩:=j;have:=J B K s e A;rw[I,Wq0 (by omega)];simp[A]
theorem hs_ren {p q:σ} {o:Option Bs} {a:As σ} (h:Wf a) (K:Hs p o o a) (D:p ≠ q) (B:Nat) (t:Bs) (hB:a.nd B=some (t,t.length)):Hs p o (some t) (a.step [(p,some B),(q,none)]):=by
 have G:∀ f:σ->Option Nat,nmL f [(p,some B),(q,none)] p=some B:=fun f=>by simp[nmL,nm1,D]
 refine⟨?_,?_⟩
 ·unfold ct As.step;simp only[G];simp[hB]
 rintro c ⟨k,A⟩;rw[at_step a h] at A;by_cases e:k<=a.mvs.length
 ·rw[if_pos e] at A;exact .inl (mid_self _ _ (K.cr c ⟨k,A⟩))
 rw[if_neg e,G] at A;obtain⟨L,s,m,I,M,J⟩:=A;have j:a.nd B=some (L,s):=I;rw[hB] at j;cases Wq8.inj j
 refine .inr (.inl ?_);rw[J,Wq0 (by omega)]
theorem hs_app {p:σ} {a:As σ} {o:Bs} (h:Wf a) (A:Hs p (some o) (some o) a) (B:Nat) (zs bs:Bs) (s:Nat) (G:a.now p=some B) (hB:a.nd B=some (zs,s)):Hs p (some o) (some (o++bs)) (a.put B (zs++bs,s))/\zs=o:=by
 have I:zs=o:=by
  have:=A.now;unfold ct at this;rw[G] at this;simpa [hB] using this
 subst I;have hs:=h.le B zs s hB;have hsz:s=zs.length:=by
  have:=A.cr (some (zs.take (s+0))) ⟨a.mvs.length,by rw[h.full,G];exact⟨zs,s,0,hB,Nat.zero_le _,rfl⟩⟩;have:=Wq8.inj (mid_self _ _ this);have:=congrArg Wzw this;simp at this;omega
 subst hsz;refine⟨⟨?_,?_⟩,rfl⟩
 ·unfold ct As.put;simp only[G];simp
 rintro J ⟨k,j⟩;rw[DK] at j;cases e:a.at_ k p with
 | none =>
  rw[e] at j;exact .inl (mid_self _ _ (A.cr J ⟨k,by rw[e];exact j⟩))
 | some B' =>
  rw[e] at j;obtain⟨Q,O,m,D,M,L⟩:=j;by_cases K:B'=B
  ·subst K;simp only[As.put,if_true] at D;cases Wq8.inj D
   exact .inr (.inr ⟨zs,bs,m,rfl,rfl,by rw[L,List.take_length_add_append]⟩)
  refine .inl (mid_self _ _ (A.cr J ⟨k,?_⟩));rw[e];exact⟨Q,O,m,by simpa [As.put,K] using D,M,L⟩
theorem cr_crash {p:σ} {a:As σ} (h:Wf a) (k:Nat) (m:Nat->Nat) (dec:∀ B,Decidable (∃ x,a.at_ k x=some B)) (Q:∀ n,m n<=n):Wf (a.crash k m dec)/\cr a p (ct (a.crash k m dec) p)/\Hs p (ct (a.crash k m dec) p) (ct (a.crash k m dec) p) (a.crash k m dec):=by
 have D:∀ j,(a.crash k m dec).at_ j=a.at_ k:=fun j=>by simp[As.at_,As.crash,nmS]
 have G:∀ x B,a.at_ k x=some B->(a.crash k m dec).nd B=(a.nd B).map fun c=>(c.1.take (c.2+m (c.1.length-c.2)),(c.1.take (c.2+m (c.1.length-c.2))).length):=fun x B hx=>by
  show (match dec B with
   | .isTrue _=>_
   | .isFalse _=>_)=_
  cases dec B with
  | isTrue _=>rfl
  | isFalse K=>exact absurd ⟨x,hx⟩ K
 have V:Wf (a.crash k m dec):=by
  refine⟨D _,fun j x B hx=>?_,fun j x y B hx hy=>?_,fun B z s Y=>?_⟩
  ·rw[D] at hx;obtain⟨c,hc⟩:=h.dom k x B hx;exact⟨_,by rw[G x B hx,hc];rfl⟩
  ·rw[D] at hx hy;exact h.inj k x y B hx hy
  have A:(match dec B with
   | .isTrue _=>(a.nd B).map fun c=>(c.1.take (c.2+m (c.1.length-c.2)),(c.1.take (c.2+m (c.1.length-c.2))).length)
   | .isFalse _=>a.nd B)=some (z,s):=Y
  cases hd:dec B with
  | isTrue _ =>
   rw[hd] at A;cases hc:a.nd B with
   | none=>rw[hc] at A;cases A
   | some c =>
    rw[hc] at A;cases Wq8.inj A
    exact Wz8 _
  | isFalse _=>rw[hd] at A;exact h.le B z s A
 refine⟨V,⟨k,?_⟩,⟨rfl,?_⟩⟩
 ·unfold ct;show match a.at_ k p with
   | none=>((a.crash k m dec).now p).bind _=none
   | some B=>_
  have K:(a.crash k m dec).now p=a.at_ k p:=rfl;rw[K];cases e:a.at_ k p with
  | none=>rfl
  | some B =>
   obtain⟨⟨z,s⟩,hc⟩:=h.dom k p B e;refine⟨z,s,m (z.length-s),hc,Q _,?_⟩;show ((a.crash k m dec).nd B).map Prod.fst=_;rw[G p B e,hc];rfl
 rintro c ⟨j,J⟩;rw[D] at J;refine .inl ?_;unfold ct;have K:(a.crash k m dec).now p=a.at_ k p:=rfl;rw[K];cases e:a.at_ k p with
 | none=>rw[e] at J;exact J
 | some B =>
  rw[e] at J;obtain⟨z',s',m',L,Z,O⟩:=J;show c=((a.crash k m dec).nd B).map _;rw[L,O];obtain⟨⟨z,s⟩,hc⟩:=h.dom k p B e;rw[G p B e,hc] at L;have I:=Wq8.inj L;have e1:=congrArg Prod.fst I;have M:=congrArg Prod.snd I;simp only at e1 M;rw[e1] at M;simp only[Wq7,Wq8.injEq];exact Wq0 (by omega)
end Go.Proofs.YtdnphaganajejaaGreatDoor.Ra
namespace Go.Proofs.YtdnphaganajejaaGreatDoor.K
open Go.Proofs.Tryz
open Go.RowKit
theorem qZ {P:Program} {A:Region.Mode} {Q:Exit->Act->World->Prop} {S:World->Prop} {l:List Oper} {i:Nat} {j:Oper} {v:Value} {fuel:Nat} {listed:Array Bool} {a:Act} {w:World} (D:S w)
  (hy:∀ w',S w'->(execOp a.eval j).run P w'=.ok (.value v) w')
  (h:wpAnyH P A l.toArray Q S fuel (listed.setIfInBounds i true) (a.put j.dst v) w) (hi:l[i]? = some j:=by rfl)
  (hs:Region.noSelect l.toArray=true:=by kernel_rfl) (G:Region.free A l.toArray listed i=true:=by kernel_rfl) (hr:(Region.ready A l.toArray listed).contains i=true:=by kernel_rfl) (hQ:∀ c a w,Q (.panic c) (a.put j.dst v) w->Q (.panic c) a w:=by exact fun _ _ _ h=>h) (I:Region.wanted j (yielded l.toArray a.tmps)=true:=by rfl) :
  wpAnyH P A l.toArray Q S (fuel+1) listed a w:=j8 hi hs G hr hQ (Or.inl ⟨I,hy⟩) D h
theorem qy {P:Program} {A:Region.Mode} {Q:Exit->Act->World->Prop} {S:World->Prop} {l:List Oper} {i:Nat} {j:Oper} {v:Value} {fuel:Nat} {listed:Array Bool} {a:Act} {w:World} (D:S w)
  (hy:∀ w',S w'->(execOp a.eval j).run P w'=.ok (.value v) w')
  (h:wpAnyH P A l.toArray Q S fuel (listed.setIfInBounds i true) (a.put j.dst v) w) (hx:listed.toList.findIdx? (fun b => !b)=some i:=by rfl) (hi:l[i]? = some j:=by rfl)
  (hs:Region.noSelect l.toArray=true:=by kernel_rfl) (G:Region.free A l.toArray listed i=true:=by kernel_rfl) (hr:(Region.ready A l.toArray listed).contains i=true:=by kernel_rfl) (hQ:∀ c a w,Q (.panic c) (a.put j.dst v) w->Q (.panic c) a w:=by exact fun _ _ _ h=>h) (I:Region.wanted j (yielded l.toArray a.tmps)=true:=by rfl) :
  wpAnyH P A l.toArray Q S (fuel+1) listed a w:=j8 hi hs G hr hQ (Or.inl ⟨I,hy⟩) D h
theorem jX {P:Program} {j:Array Oper} {o:Oper} {a:Act} {w w':World} {K:Act->World->Prop} {Q:Exit->Act->World->Prop} {E:Prop} (A:o.guard=none) (v:Value) (hr:(execOp a.eval o).run P w=.ok (.value v) w') (h:K (a.put o.dst v) w') :
  if Region.wanted o (yielded j a.tmps)=true then Oper.wp P o a w K Q else E:=by
 have D:Region.wanted o (yielded j a.tmps)=true:=by simp[Region.wanted,A]
 rw[if_pos D];unfold Oper.wp;rw[hr];exact h
end Go.Proofs.YtdnphaganajejaaGreatDoor.K
namespace Go.Proofs.YtdnphaganajejaaGreatDoor.Ra
open Go.Proofs.Tryz
variable {σ : Type} [DecidableEq σ]
structure Old (p q:σ) (o:Option Bs) (a:As σ):Prop where
 wf:Wf a
 hs:Hs p o o a
 sep:Sep p q a
theorem Old.create {p q:σ} {o:Option Bs} {a:As σ} (h:Old p q o a) (L:p ≠ q) (B:Nat) (hB:a.nd B=none) (Q:a.now q=none):Old p q o ((a.put B ([],0)).step [(q,some B)]):=by
 have D:∀ k x,a.at_ k x ≠ some B:=fun k x e=>by
  obtain⟨c,hc⟩:=h.wf.dom k x B e;rw[hB] at hc;cases hc
 have M:=wf_put a h.wf B ([],0) (Wz8 _);have A:a.now=a.at_ a.mvs.length:=h.wf.full.symm;have hv:∀ x,nmL (a.put B ([],0)).now [(q,some B)] x=if x=q then some B else a.now x:=fun x=>rfl;have O:Wf ((a.put B ([],0)).step [(q,some B)]):=wf_step _ M _ (fun x C hx=>by
  rw[hv] at hx;by_cases e:x=q
  ·rw[if_pos e] at hx;cases hx;exact⟨([],0),by simp[As.put]⟩
  ·rw[if_neg e,A] at hx;obtain⟨c,hc⟩:=h.wf.dom _ x C hx;exact⟨c,by simp only[As.put];rw[if_neg (fun G=>by rw[G,hB] at hc;cases hc)];exact hc⟩) (fun x y C hx hy=>by
  rw[hv] at hx hy;by_cases e:x=q
  ·by_cases G:y=q
   ·rw[e,G]
   rw[if_pos e] at hx;cases hx
   rw[if_neg G,A] at hy;exact absurd hy (D _ _)
  rw[if_neg e,A] at hx;by_cases G:y=q
  ·rw[if_pos G] at hy;cases hy
   exact absurd hx (D _ _)
  rw[if_neg G,A] at hy;exact h.wf.inj _ x y C hx hy)
 refine⟨O,Ey M (zqZ h.wf h.hs B _ (fun k=>D k p)) _ (fun f=>by simp[nmL,nm1,L]),fun k j C J I=>?_⟩;rw[at_step _ M] at J I;change (if k<=a.mvs.length then a.at_ k else nmL (a.put B ([],0)).now [(q,some B)]) p=some C at J;change (if j<=a.mvs.length then a.at_ j else nmL (a.put B ([],0)).now [(q,some B)]) q=some C at I
 have K:a.at_ (min k a.mvs.length) p=some C:=by
  by_cases e:k<=a.mvs.length
  ·rw[if_pos e] at J;rw[Wq3 e];exact J
  rw[if_neg e,hv,if_neg L,A] at J;rw[Wq4 (by omega)];exact J
 by_cases e:j<=a.mvs.length
 ·rw[if_pos e] at I;exact h.sep _ _ C K I
 rw[if_neg e,hv,if_pos rfl] at I;cases I
 exact D _ _ K
theorem Old.remove {p q:σ} {o:Option Bs} {a:As σ} (h:Old p q o a) (I:p ≠ q):Old p q o (a.step [(q,none)]):=by
 have A:a.now=a.at_ a.mvs.length:=h.wf.full.symm;have hv:∀ x,nmL a.now [(q,none)] x=if x=q then none else a.now x:=fun x=>rfl;have K:Wf (a.step [(q,none)]):=wf_step _ h.wf _ (fun x C hx=>by
  rw[hv] at hx;by_cases e:x=q
  ·rw[if_pos e] at hx;cases hx
  ·rw[if_neg e,A] at hx;exact h.wf.dom _ x C hx) (fun x y C hx hy=>by
  rw[hv] at hx hy;by_cases e:x=q
  ·rw[if_pos e] at hx;cases hx
  by_cases L:y=q
  ·rw[if_pos L] at hy;cases hy
  rw[if_neg e,A] at hx;rw[if_neg L,A] at hy;exact h.wf.inj _ x y C hx hy)
 refine⟨K,Ey h.wf h.hs _ (fun f=>by simp[nmL,nm1,I]),fun k j C G D=>?_⟩;rw[at_step _ h.wf] at G D;have J:a.at_ (min k a.mvs.length) p=some C:=by
  by_cases e:k<=a.mvs.length
  ·rw[if_pos e] at G;rw[Wq3 e];exact G
  rw[if_neg e,hv,if_neg I,A] at G;rw[Wq4 (by omega)];exact G
 by_cases e:j<=a.mvs.length
 ·rw[if_pos e] at D;exact h.sep _ _ C J D
 rw[if_neg e,hv,if_pos rfl] at D;cases D
theorem Old.put {p q:σ} {o:Option Bs} {a:As σ} (h:Old p q o a) (B:Nat) (G:a.now q=some B) (c:Bs × Nat) (hc:c.2<=c.1.length):Old p q o (a.put B c):=by
 have hB:a.at_ a.mvs.length q=some B:=by rw[h.wf.full];exact G
 exact⟨wf_put a h.wf B c hc,zqZ h.wf h.hs B c (fun k e=>h.sep k _ B e hB),fun k j C D A=>h.sep k j C D A⟩
end Go.Proofs.YtdnphaganajejaaGreatDoor.Ra
namespace Go.Proofs.YtdnphaganajejaaGreatDoor.K
open Go.Proofs.Tryz
open Go.RowKit
section
variable {α : Type} {enc : α → List Value} {k : Nat} {d : α}
theorem UQ {L:Array Oper} {w w0:World} {o:Oper} {a:Act} {K:Act->World->Prop} {Q:Exit->Act->World->Prop} {E:Prop} (s x:Operand) (t e:TypeId) (hu:prog.underlying t=some (.slice e)) {z:Value} {A:Nat} (J:(prog.info? e).map (fun i=>(i.zero,i.size,i.bytes))=some (some z,k,A)) (hz:z.cells.size=k) (hk:0<k) (I:A<=300)
  (D:∀ x,∀ v ∈ enc x,v.oneCell'=true)
  (B:Nat) (v:Value) (l:List α) (hs:a.eval s=v) (h:Bx enc k e w0 w B v l)
  (G:Option Addr) (cx:Nat) (m:List α) (hx:a.eval x=.slice G m.length cx) (Y:Px enc k d w G cx m) (hw:∀ x ∈ m,(enc x).length=k) (hl:l.length+m.length<=1000000000)
  (V:∀ j w',Bx enc k e w0 w' B j (l++m)->Mv w w' v j->K (a.put o.dst j) w')
  (ho:o.op=.call { callee:=.builtin .append,args:=#[s,x],argTypes:=#[t,t] }:=by rfl) (Z:o.guard=none:=by rfl) :
  if Region.wanted o (yielded L a.tmps)=true then Oper.wp prog o a w K Q else E:=by
 obtain⟨j,w',hr,M,O⟩:=Lu s x t e hu J hz hk I D ho B v l hs h G cx m hx Y hw hl;exact jX Z j hr (V j w' M O)
end
end Go.Proofs.YtdnphaganajejaaGreatDoor.K
