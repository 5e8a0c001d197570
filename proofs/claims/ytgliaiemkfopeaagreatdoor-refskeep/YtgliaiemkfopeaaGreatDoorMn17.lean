import Derived.Test.YtgliaiemkfopeaaGreatDoorMn16
set_option linter.unusedSimpArgs false
set_option linter.unusedVariables false
set_option maxRecDepth 20000
set_option maxHeartbeats 4000000
namespace Go.Proofs.YtgliaiemkfopeaaGreatDoor.K
open Go.RowKit
def hv (c:UInt8):Nat:=if c.toNat<58 then c.toNat-48 else c.toNat-87
def isH (c:UInt8):Prop:=(48<=c.toNat/\c.toNat<=57) ∨ (97<=c.toNat/\c.toNat<=102)
def pv (l:List UInt8):Nat:=l.foldl (fun a c=>a*16+hv c) 0
theorem pv_snoc (l:List UInt8) (c:UInt8):pv (l++[c])=pv l*16+hv c:=by simp[pv]
theorem pv_take (l:List UInt8) (i:Nat):pv (l.take i)<=pv l:=by
 have key:∀ (m:List UInt8) (a b:Nat),a<=b->a<=m.foldl (fun a c=>a*16+hv c) b:=by
  intro m
  induction m with
  | nil=>intro a b h;exact h
  | cons c m ih=>intro a b h;exact ih a _ (by show a<=b*16+hv c;omega)
 conv=>rhs;rw[<-List.take_append_drop i l]
 unfold pv
 rw[List.foldl_append]
 exact key _ _ _ (Nat.le_refl _)
theorem lower_any (c:Int) (w:World):Calls Tryz.prog 237 #[.int .u8 c] w fun e w'=>e=.returned (.int .u8 (bits .or .u8 c 32))/\w'=w:=by
 go_enter Tryz.func237,Tryz.ntmps237
 go_wp2
 go_ret
 exact⟨rfl,rfl⟩
theorem low_hex (c:Nat) (h:97<=c/\c<=102):bits .or .u8 (c:Int) 32=(c:Int):=by
 obtain⟨h1,h2⟩:=h
 rcases(by omega:c=97 ∨ c=98 ∨ c=99 ∨ c=100 ∨ c=101 ∨ c=102) with rfl | rfl | rfl | rfl | rfl | rfl <;> kernel_rfl
set_option maxHeartbeats 1000000 in
theorem parseUint16 (l:List UInt8) (hne:l ≠ []) (hl:l.length<=100) (hh:∀ c ∈ l,isH c) (hp:pv l<=4294967295) (w:World) :
  Calls Tryz.prog 220 #[.string ⟨l.toArray⟩,.int .i64 16,.int .i64 64] w fun e w'=>e=.returned (.tuple #[.int .u64 (pv l),.nilIface])/\Below w.heap.size w w':=by
 obtain⟨S,HS⟩:=nn_ (⟨l.toArray⟩:ByteArray)
 obtain⟨n,HN⟩:=nm_ l.length
 have hn:n<=100:=by rw[<-HN.out];exact hl
 have hemp:S.toList.isEmpty=false:=by
  rw[HS.out,Lib.toList_data]
  simpa using hne
 obtain⟨cap,w1,hcv,hmk,hb1⟩:=conv_mk l w
 rw[<-HS.out,HN.out] at hcv
 have HB1:Hid (Below w.heap.size w w1):=hb1
 have HM:Hid (Mk w1 w.heap.size cap l):=hmk
 have hmv:IntKind.u64.wrap (IntKind.u64.wrap 18446744073709551616-1)=18446744073709551615:=by kernel_rfl
 have hmv2:IntKind.u64.wrap (0-1)=18446744073709551615:=by kernel_rfl
 have hmv3:IntKind.u64.wrap (-1)=18446744073709551615:=by kernel_rfl
 rw[<-HS.out]
 have HH:=hid hh
 have HP:=hid hp
 clear hmk hb1 hh hp hl hne
 go_enter Tryz.func220,Tryz.ntmps220
 go_wp2
 go_loopg [12,13,101] n (fun q vu vn vi wr=>∃ (k a:Nat) (A:Int),vu=.bool false/\vn=.int .u64 A/\vi=.int .i64 k/\q=n-k/\k<=n/\wr=w1/\Hid (a=pv (l.take k))/\Hid (A=(a:Int)))
 case atStart=>exact⟨0,0,0,rfl,rfl,rfl,rfl,Nat.zero_le _,rfl,hid rfl,hid rfl⟩
 case round =>
  obtain⟨k,a,A,rfl,rfl,rfl,hq,hk,rfl,HA,HAA⟩:=hrel
  have ha:a<=4294967295:=by rw[HA.out];exact Nat.le_trans (pv_take l k) HP.out
  by_cases hkn:k<n
  ·have hki:(k:Int)<(n:Int):=by omega
   have hkl:k<l.length:=by rw[HN.out];exact hkn
   obtain⟨c,hcd⟩:∃ c,l.getD k 0=c:=⟨_,rfl⟩
   have hc:wr.cell? ⟨w.heap.size,k,none⟩=some (.int .u8 (c.toNat:Int)):=by
    have:=PB.cell HM.out.pb k hkl
    rw[Nat.zero_add,hcd] at this
    exact this
   have hcm:isH c:=by rw[<-hcd];exact HH.out _ (zK l k 0 hkl)
   have hsn:pv (l.take (k+1))=a*16+hv c:=by rw[qj 0 l k hkl,hcd,pv_snoc,HA.out]
   have hle:a*16+hv c<=4294967295:=by rw[<-hsn];exact Nat.le_trans (pv_take l (k+1)) HP.out
   have HSN:=hid hsn
   have hc256:c.toNat<256:=c.toNat_lt
   obtain⟨x,hx⟩:∃ x,c.toNat=x:=⟨_,rfl⟩
   have hAA:=HAA.out
   have a0:0<=A:=by omega
   have a1:A<=4294967295:=by omega
   obtain⟨y,hy⟩:∃ y:Int,(x:Int)=y:=⟨_,rfl⟩
   rw[hx,hy] at hc
   have y0:0<=y:=by omega
   have y256:y<256:=by omega
   rcases hcm with ⟨h1,h2⟩ | ⟨h1,h2⟩
   ·have hvv:hv c=x-48:=by unfold hv;rw[if_pos (by omega),hx]
    have g1:(48:Int)<=y:=by omega
    have g2:y<=57:=by omega
    have gle:A*16+(y-48)<=4294967295:=by omega
    have HQ:Hid (A*16+(y-48)=((a*16+hv c:Nat):Int)):=hid (by rw[hvv,hAA];push_cast;omega)
    have HFN:Hid (a*16+hv c=pv (l.take (k+1))):=hid HSN.out.symm
    clear hvv hx hsn h1 h2 hcd hy hAA hle ha hc256
    go_wp2
    go_roundg (n-(k+1))
    case measure=>omega
    case rel=>exact⟨k+1,_,A*16+(y-48),rfl,by first | rfl | (congr 1;omega),by first | rfl | go_num,rfl,by omega,rfl,HFN,HQ⟩
   ·have hvv:hv c=x-87:=by unfold hv;rw[if_neg (by omega),hx]
    have hlo:=low_hex x (by omega)
    rw[hy] at hlo
    have g1:(97:Int)<=y:=by omega
    have g2:y<=102:=by omega
    have gle:A*16+(y-97+10)<=4294967295:=by omega
    have HQ:Hid (A*16+(y-97+10)=((a*16+hv c:Nat):Int)):=hid (by rw[hvv,hAA];push_cast;omega)
    have HFN:Hid (a*16+hv c=pv (l.take (k+1))):=hid HSN.out.symm
    clear hvv hx hsn h1 h2 hcd hy hAA hle ha hc256
    go_wp2_with (go_at_call 237;refine(lower_any _ _).mono ?_;rintro e w' ⟨rfl,rfl⟩)
    go_roundg (n-(k+1))
    case measure=>omega
    case rel=>exact⟨k+1,_,A*16+(y-97+10),rfl,by first | rfl | (congr 1;omega),by first | rfl | go_num,rfl,by omega,rfl,HFN,HQ⟩
  ·have hki:¬ (k:Int)<(n:Int):=by omega
   obtain rfl:k=n:=by omega
   have HF:Hid (a=pv l):=hid (by rw[HA.out,List.take_of_length_le (by rw[HN.out];exact Nat.le_refl _)])
   go_wp2
   go_ret2
   exact⟨by rw[<-HF.out,<-HAA.out];rfl,HB1.out⟩
set_option maxHeartbeats 1000000 in
theorem parseI16 (l:List UInt8) (hne:l ≠ []) (hl:l.length<=100) (hh:∀ c ∈ l,isH c) (hp:pv l<=4294967295) (w:World) :
  Calls Tryz.prog 196 #[.string ⟨l.toArray⟩,.int .i64 16,.int .i64 64] w fun e w'=>e=.returned (.tuple #[.int .i64 (pv l),.nilIface])/\Below w.heap.size w w':=by
 have hc:=parseUint16 l hne hl hh hp w
 obtain⟨c,t,rfl⟩:=List.exists_cons_of_ne_nil hne
 have hix:∀ w1:World,(Instr.index 9 (.string ⟨(c :: t).toArray⟩) (.int .i64 0)).run Tryz.prog w1=.ok (.int .u8 (c.toNat:Int)) w1:=fun w1=>Z1 (c :: t) 0 w1 c rfl
 have hc0:=hh c (by simp)
 obtain⟨x,hx⟩:∃ x,c.toNat=x:=⟨_,rfl⟩
 unfold isH at hc0
 rw[hx] at hix hc0
 have g1:¬ ((x:Int)=43):=by omega
 have g2:¬ ((x:Int)=45):=by omega
 obtain⟨v,hv⟩:∃ v,pv (c :: t)=v:=⟨_,rfl⟩
 rw[hv] at hc hp ⊢
 have hemp:(⟨(c :: t).toArray⟩:ByteArray).toList.isEmpty=false:=by rw[Lib.toList_data];rfl
 obtain⟨S,HS⟩:=nm_ (⟨(c :: t).toArray⟩:ByteArray)
 rw[HS.out] at hc hix hemp ⊢
 obtain⟨z,hz⟩:∃ z:Int,(v:Int)=z:=⟨_,rfl⟩
 rw[hz] at hc ⊢
 have z0:0<=z:=by omega
 have z1:z<=4294967295:=by omega
 obtain⟨xz,hxz⟩:∃ z:Int,(x:Int)=z:=⟨_,rfl⟩
 rw[hxz] at hix g1 g2
 clear hc0 hx hh hv hne hl hp hz hxz
 go_enter Tryz.func196,Tryz.ntmps196
 go_wp2_with (go_at_call 220;refine hc.mono ?_;rintro e w1 ⟨rfl,hb⟩;have HB:=hid hb;clear hb)
 go_ret2
 exact⟨rfl,HB.out⟩
theorem parseInt16 (l:List UInt8) (hne:l ≠ []) (hl:l.length<=100) (hh:∀ c ∈ l,isH c) (hp:pv l<=4294967295) (w:World) :
  Calls Tryz.prog 164 #[.string ⟨l.toArray⟩,.int .i64 16,.int .i64 64] w fun e w'=>e=.returned (.tuple #[.int .i64 (pv l),.nilIface])/\Below w.heap.size w w':=by
 have hc:=parseI16 l hne hl hh hp w
 obtain⟨v,hv⟩:∃ v,pv l=v:=⟨_,rfl⟩
 rw[hv] at hc ⊢
 clear hne hl hh hp hv
 go_enter Tryz.func164,Tryz.ntmps164
 go_wp2_with (go_at_call 196;refine hc.mono ?_;rintro e w1 ⟨rfl,hb⟩;have HB:=hid hb;clear hb)
 go_ret2
 exact⟨rfl,HB.out⟩
def h16 (n:Nat):List UInt8:=List.replicate (16-(x16 n).length) 48++x16 n
theorem dv_hv {d:Nat} (h:d<16):isH (UInt8.ofNat (dv d))/\hv (UInt8.ofNat (dv d))=d:=by
 have hl:=dv_lt h
 have e:(UInt8.ofNat (dv d)).toNat=dv d:=by rw[UInt8.toNat_ofNat'];omega
 unfold isH hv
 rw[e]
 unfold dv
 by_cases h10:d<10
 ·rw[if_pos h10,if_pos (by omega)]
  exact⟨.inl ⟨by omega,by omega⟩,by omega⟩
 ·rw[if_neg h10,if_neg (by omega)]
  exact⟨.inr ⟨by omega,by omega⟩,by omega⟩
theorem x16_pv (k n:Nat):n<k->(∀ c ∈ x16 n,isH c)/\∀ a,(x16 n).foldl (fun a c=>a*16+hv c) a=a*16 ^ (x16 n).length+n:=by
 induction k generalizing n with
 | zero=>intro h;omega
 | succ k ih =>
  intro h
  by_cases h16:n<16
  ·rw[Z7 n h16]
   exact⟨fun c hc=>by rw[List.mem_singleton.1 hc];exact(dv_hv h16).1,fun a=>by simp[(dv_hv h16).2]⟩
  ·rw[x16_big n h16]
   have hm:n % 16<16:=Nat.mod_lt _ (by omega)
   obtain⟨i1,i2⟩:=ih (n / 16) (by omega)
   refine⟨fun c hc=>?_,fun a=>?_⟩
   ·rcases List.mem_append.1 hc with hc | hc
    ·exact i1 c hc
    ·rw[List.mem_singleton.1 hc];exact(dv_hv hm).1
   ·rw[List.foldl_append,i2]
    simp only[List.foldl_cons,List.foldl_nil,(dv_hv hm).2,List.length_append,List.length_cons,List.length_nil,Nat.zero_add,Nat.pow_succ]
    have:=Nat.div_add_mod n 16
    rw[Nat.add_mul,Nat.mul_assoc]
    omega
theorem h16_ok (n:Nat) (hn:n<4294967296):(h16 n).length=16/\(∀ c ∈ h16 n,isH c)/\pv (h16 n)=n:=by
 have hl:=x16_len 7 n (by simpa using hn)
 obtain⟨i1,i2⟩:=x16_pv (n+1) n (by omega)
 refine⟨by unfold h16;rw[List.length_append,List.length_replicate];omega,fun c hc=>?_,?_⟩
 ·rcases List.mem_append.1 hc with hc | hc
  ·rw[List.eq_of_mem_replicate hc]
   exact .inl ⟨by decide,by decide⟩
  ·exact i1 c hc
 ·unfold pv h16
  rw[List.foldl_append,i2]
  have hz:∀ k,(List.replicate k (48:UInt8)).foldl (fun a c=>a*16+hv c) 0=0:=by
   intro k
   induction k with
   | zero=>rfl
   | succ k ih=>rw[List.replicate_succ,List.foldl_cons];exact ih
  rw[hz,Nat.zero_mul,Nat.zero_add]
theorem Tryz.results96:Tryz.f96.results=#[.tmp 2]:=by kernel_rfl
abbrev dS:Sp:=⟨[],[],[],[],dL⟩
def Post96 (T:Ts) (w:World) (e:Ending) (w':World):Prop := ∃ v ss,e=.returned v/\(∀ x,x ∈ ss ↔ T x ≠ none)/\ss.Pairwise (fun x y=>decide (x<=y)=true)/\ss.Nodup/\Bx zX 68 143 w w' w.heap.size v (stN T ss)
theorem fs1_ok {S:Nat->Prop} {w:World} {x:Str} {r:Lr} (h:Yu S w x r):vk (fs1 x r):=⟨h.id,qK,h.nm,h.tg⟩
theorem Qk {x:Str} (hx:x.length<=60) {e:Le} (he:uy e):vk (lg1 x e):=⟨qK.1,he,hx,by simp[lg1]⟩
theorem stN_long (T:Ts):∀ ss:List Str,(∀ x ∈ ss,T x ≠ none)->ss.length<=(stN T ss).length
 | [],_=>Nat.zero_le _
 | x :: ss,h=>by
  have:=stN_long T ss (fun y hy=>h y (by simp[hy]))
  unfold stN at this ⊢
  rw[List.flatMap_cons,List.length_append,List.length_cons]
  have h1:1<=(st1 T x).length:=by
   unfold st1
   cases e:T x with
   | none=>exact absurd e (h x (by simp))
   | some r=>simp
  omega
theorem steps_any (S:Nat->Prop) (t n:Nat) (T:Ts) (w:World) (h:Tt S w t n T) (hn:n<=100000) (hsz:∀ ss:List Str,(∀ x,x ∈ ss ↔ T x ≠ none)->ss.Nodup->(stN T ss).length<=100000000) :
  Calls Tryz.prog 96 #[.map (some t)] w (Post96 T w):=by
 obtain⟨G,HG⟩:=nm_ w.heap.size
 have hnm:=names_any S t n T w h hn
 have H:=hid h
 have HSZ:=hid hsz
 clear h hsz
 rw[HG.out] at hnm
 go_enter Tryz.func96,Tryz.ntmps96
 go_wp2_with (first
  | (go_at_call 62;refine hnm.mono ?_;rintro e w1 ⟨v1,ss,rfl,q1,q2,q3,q4,q5⟩;obtain⟨a,c,rfl⟩:=zZ q4;have Q1:=hid q1;have Q2:=hid q2;have Q3:=hid q3;have Q4:=hid q4;have Q5:=hid q5;obtain⟨N,HN⟩:∃ N,Hid (ss.length=N):=⟨_,rfl⟩;rw[HN.out];have HNB:Hid (N<=100000000):=hid (by rw[<-HN.out];refine Nat.le_trans ?_ (HSZ.out ss q1 q3);exact(stN_long T ss (fun x hx=>(q1 x).1 hx)));clear q1 q2 q3 q4 q5 hnm)
  | fail)
 obtain⟨G1,HG1⟩:=nm_ w1.heap.size
 have hG1:G<=G1:=by have h1:=Q5.out.size;have h2:=HG1.out;have h3:=HG.out;omega
 have HPX:Hid (∀ W,Below G1 w1 W->Px eT 1 [] W a c ss):=fun W hW=>by
  have hB:Bx eT 1 9 w1 w1 0 (.slice a ss.length c) ss:=⟨Below.refl _ _,by rw[jz];exact kz Q4.out,Nat.zero_le _⟩
  obtain⟨a',c',e,hP,_⟩:=hB.px (d:=[]) (fun _ _=>rfl)
  cases e
  exact hP.below (by rw[HG1.out];exact hW)
 have HB0:Hid (Bx zX 68 143 w1 w1 G1 (.slice none 0 0) (stN T (ss.take 0))):=hid (by simpa [stN] using uz 143 w1 G1 (by rw[HG1.out];exact Nat.le_refl _))
 have HTT:Hid (∀ W,Below G1 w1 W->Tt S W t n T):=fun W hW=>(H.out.below (by rw[HG.out];exact Q5.out)).below (by rw[HG1.out];exact hW)
 have hN9:N<=100000000:=HNB.out
 go_loopg [3,13] N (fun q sv iv wr=>∃ (i:Nat) (v:Value),iv=.int .i64 i/\v=sv/\q=N-i/\i<=N/\Hid (Bx zX 68 143 w1 wr G1 v (stN T (ss.take i))))
 case atStart=>exact⟨0,_,rfl,rfl,rfl,Nat.zero_le _,HB0⟩
 case round =>
  obtain⟨i,v,rfl,hv,hq,hin,HB⟩:=hrel
  subst hv
  by_cases hlt:i<N
  ·have hlti:(i:Int)<(N:Int):=by omega
   obtain⟨b,off,e1,_,e3⟩:=(HPX.out _ HB.out.below).at_ (by rw[HN.out];omega)
   subst e1
   have hcx:=e3 i (by rw[HN.out];exact hlt) 0 _ rfl
   obtain⟨x,hx⟩:∃ x,ss.getD i []=x:=⟨_,rfl⟩
   rw[hx] at hcx
   have HX:=hid hx
   have hmem:x ∈ ss:=by rw[<-hx];exact zK ss i [] (by rw[HN.out];exact hlt)
   obtain⟨r,hr⟩:∃ r,T x=some r:=Option.ne_none_iff_exists'.1 ((Q1.out x).1 hmem)
   have HR:=hid hr
   have hro:=(HTT.out wr HB.out.below).at_ x r hr
   have hlk:=(HTT.out wr HB.out.below).tm.look1 xu (j0 wr) (x:=x) (by have:=hro.nm;omega)
   obtain⟨A,HA⟩:=ra r hro.id.1
   obtain⟨R,HI⟩:=ri r.id hro.id.1
   simp only[vT,hr,Option.map_some,Option.getD_some,HA.out.e] at hlk
   simp only[Nat.mul_one,Nat.add_zero] at hcx
   have HNM:Hid (x.length<=60):=hid hro.nm
   obtain⟨LL,HLL⟩:=nm_ r.log.length
   obtain⟨la,HLA⟩:∃ a,Hid (r.a=a):=⟨_,rfl⟩
   obtain⟨lc,hlc⟩:∃ a,r.c=a:=⟨_,rfl⟩
   have hLL9:LL<=100000:=by rw[<-HLL.out];exact hro.few
   have HLT:Hid ((stN T (ss.take i)).length+1+LL<=100000000):=hid (by
    have h1:=stN_le T ss (i+1)
    rw[stN_snoc T ss i (by rw[HN.out];exact hlt) r (by rw[hx];exact hr)] at h1
    have h2:=HSZ.out ss Q1.out Q3.out
    rw[List.length_append,List.length_cons,List.length_map,HLL.out] at h1
    omega)
   obtain⟨w2,hw2⟩:∃ w2,wr.alloc (.cells A 125)=w2:=⟨_,rfl⟩
   have ha2:w2.heap[wr.heap.size]? = some (.cells A 125):=by rw[<-hw2];exact heap_alloc_new _ _
   have hs2:w2.heap.size=wr.heap.size+1:=by rw[<-hw2];simp
   have hc20:w2.cell? ⟨wr.heap.size,20,none⟩=some (sV r.tg):=by rw[<-hw2];exact(vq HA.out hro.id.1 wr).1
   have hc21:w2.cell? ⟨wr.heap.size,21,none⟩=some (.slice la r.log.length lc):=by rw[<-hw2,<-HLA.out,<-hlc];exact(vq HA.out hro.id.1 wr).2
   obtain⟨ll,hll⟩:∃ n,r.log.length=n:=⟨_,rfl⟩
   rw[hll] at hc21
   obtain rfl:LL=ll:=by rw[<-hll];exact HLL.out.symm
   have HRG2:Hid (w2.rangeAt wr.heap.size 0 R.toList):=fun j v hv=>by
    have h1:w2.heap[wr.heap.size]? = some (.cells A.toList.toArray 125):=by rw[Array.toArray_toList];exact ha2
    refine zy h1 j v ?_
    have e:=HA.out.e
    unfold rV at e
    injection e with e
    rw[<-e]
    rw[<-HI.out.e] at hv
    simp only[List.toList_toArray] at hv ⊢
    rw[List.getElem?_append_left (List.getElem?_eq_some_iff.1 hv).1]
    exact hv
   have HI89:Hid ((Tryz.prog.info? 89).map (·.size)=some R.toList.length):=hid (by simpa using HI.out.i)
   obtain⟨tg,htg⟩:∃ s,r.tg=s:=⟨_,rfl⟩
   have hs0:vk ⟨wR,x,r.id,r.tg,zL⟩:=⟨hro.id,qK,hro.nm,hro.tg⟩
   obtain⟨B0,hB0⟩:∃ B,(zX ⟨wR,x,r.id,r.tg,zL⟩).toArray=B:=⟨_,rfl⟩
   have HBD:Hid (∀ W:World,(Instr.build 143 #[(0,.string ⟨#[114,101,102]⟩),(1,.string ⟨x.toArray⟩),(2,.agg R),(3,.string ⟨tg.toArray⟩)]).run Tryz.prog W=.ok (.agg B0) W):=fun W=>by rw[<-hB0,<-HI.out.e,<-htg];exact bdS4 _ _ _ hro.id.1 _ W
   rw[htg] at hc20
   clear e3 hmem hll hlc hr hx
   by_cases h0:tg=[]
   ·have hfs:fs1 x r=⟨wR,x,r.id,r.tg,zL⟩:=by unfold fs1;rw[if_pos (by rw[htg];exact h0)]
    obtain⟨w3,hw3⟩:∃ w3,w2.alloc (.cells B0 143)=w3:=⟨_,rfl⟩
    have hb23:Below w2.heap.size w2 w3:=by rw[<-hw3];exact(Below.refl _ _).alloc (Nat.le_refl _) _
    have hk2:wr.heap.size<w2.heap.size:=by rw[hs2];exact Nat.lt_succ_self _
    have hh3:w3.heap[w2.heap.size]? = some (.cells B0 143):=by rw[<-hw3];exact heap_alloc_new _ _
    have ha3:w3.heap[wr.heap.size]? = some (.cells A 125):=(hb23.block _ hk2).trans ha2
    have ht3:w3.cell? ⟨wr.heap.size,20,none⟩=some (sV tg):=by rw[cell_of_row _ _ 20 _ _ _ ha3,<-cell_of_row _ _ 20 _ _ _ ha2];exact hc20
    obtain⟨B,hB⟩:∃ B,(zX (fs1 x r)).toArray=B:=⟨_,rfl⟩
    obtain⟨w4,hw4⟩:∃ w4,w3=w4:=⟨_,rfl⟩
    have hBB:B0=B:=by rw[<-hB0,<-hB,hfs]
    subst hBB
    subst hw4
    have hh4:=hh3
    have hb24:=hb23
    have ha4:=ha3
    have hso:vk (fs1 x r):=fs1_ok hro
    have HBC:Hid (Bx zX 68 143 w1 (w3.alloc (.cells B0 143)) G1 v (stN T (ss.take i))):=hid (((HB.out.alloc (.cells A 125)).carry (by rw[hw2];exact hb24)).alloc _)
    have HS4:=hid hh4
    have HBS:Hid (∀ W:World,(Instr.buildSlice 123 1 #[(0,.agg B0)]).run Tryz.prog W=.ok (.slice (some ⟨W.heap.size,0,none⟩) 1 1) (W.alloc (.cells B0 143))):=fun W=>by rw[<-hB];exact vj _ hso W
    have HP1:Hid (∀ W:World,Px zX 68 dS (W.alloc (.cells B0 143)) (some ⟨W.heap.size,0,none⟩) 1 [fs1 x r]):=fun W=>by rw[<-hB];have:=yu (enc:=zX) (d:=dS) W (fs1 x r) 143;rw[zJ hso] at this;exact this
    have HON:Hid (∀ y ∈ [fs1 x r],(zX y).length=68):=hid (fun y hy=>by rw[List.mem_singleton.1 hy];exact zJ hso)
    have HLB:Hid ((stN T (ss.take i)).length + [fs1 x r].length<=1000000000):=hid (by
     have:=HLT.out
     simp only[List.length_cons,List.length_nil]
     omega)
    have HIB:Hid ((Tryz.prog.info? 143).map (·.size)=some B0.size):=hid (by rw[<-hB,List.size_toArray,zJ hso];kernel_rfl)
    have HK:Hid (∀ v6 w6,Mv (w3.alloc (.cells B0 143)) w6 v v6->w6.cell? ⟨wr.heap.size,21,none⟩=some (.slice la LL lc)):=fun v6 w6 hm=>by
     have h1:(w3.alloc (.cells B0 143)).heap[wr.heap.size]? = some (.cells A 125):=(heap_alloc_old _ _ (z7 ha4)).trans ha4
     have h2:=(hm.blk wr.heap.size (z7 h1) (fun e=>by have:=(yq HB.out.own _ e.symm).2;omega)).trans h1
     rw[cell_of_row _ _ 21 _ _ _ h2,<-cell_of_row _ _ 21 _ _ _ ha2]
     exact hc21
    have HI0:Hid ((Tryz.prog.info? 143).map (·.size)=some B0.size):=hid (by rw[<-hB0,List.size_toArray,zJ hs0];kernel_rfl)
    have HZ0:Hid (68=B0.size):=hid (by rw[<-hB0,List.size_toArray,zJ hs0])
    have HO0:Hid (B0.all (·.oneCell')=true):=hid (by rw[<-hB0];exact all_oneCell_toArray (qV _))
    unfold sV at hlk hc20 hcx ht3
    subst h0
    clear hb23 hk2 hh3 ha3 hfs hso hh4 hb24 ha4 hB hro hs0 ha2 hc21 hs2
    go_wp2_with (first
     | (at_lookup;refine z8 rfl _ (jY (mv:=.map (some t)) (kv:=.string ⟨x.toArray⟩) rfl rfl rfl hlk) ?_;go_frame)
     | (refine zq rfl 125 (.tmp 6) (.tmp 19) rfl _ A rfl rfl HA.out.i HA.out.z HA.out.o ?_;rw[hw2];go_frame)
     | (refine wpList_load_mid rfl 89 (.tmp 21) rfl _ 0 rfl R.toList _ HRG2.out Tryz.underlying89 rfl HI89.out ?_;simp only[Array.toArray_toList];go_frame)
     | (refine z8 rfl _ (Xv 143 0 1 2 3 (.const (.string ⟨#[114,101,102]⟩)) (.tmp 20) (.tmp 22) (.tmp 24) rfl (.string ⟨#[114,101,102]⟩) (.string ⟨x.toArray⟩) (.agg R) (.string ⟨#[]⟩) (.agg B0) rfl rfl rfl rfl (HBD.out _)) ?_;go_frame)
     | (refine zq rfl 143 (.tmp 7) (.tmp 25) rfl _ B0 rfl rfl HI0.out (by rw[<-HZ0.out];rfl) HO0.out ?_;rw[hw3];go_frame)
     | (refine zu rfl 143 (.tmp 7) rfl _ B0 143 (0,0) _ rfl HS4.out Tryz.underlying143 rfl HIB.out ?_;go_frame)
     | (refine z8 rfl _ (zY 123 (.tmp 31) rfl (.agg B0) _ rfl (HBS.out _)) ?_;go_frame)
     | (at_builtin;refine zj (enc:=zX) (k:=68) (d:=dS) rfl _ _ 123 143 Zu j4 rfl (by decide) (by decide) qV rfl G1 _ _ rfl HBC.out _ 1 [fs1 x r] rfl (HP1.out _) HON.out HLB.out ?_;intro v6 w6 hb6 hg6 hm6;have HBN:=hid hb6;have HLC:=HK.out v6 w6 hm6;clear hb6 hg6 hm6))
    go_loopg [3,37] LL (fun q sv iv wr=>∃ (j:Nat) (u:Value),iv=.int .i64 j/\u=sv/\q=LL-j/\j<=LL/\Hid (Bx zX 68 143 w1 wr G1 u (stN T (ss.take i)++fs1 x r :: (r.log.take j).map (lg1 x))))
    case atStart=>exact⟨0,_,rfl,rfl,rfl,Nat.zero_le _,hid (by simpa using HBN.out)⟩
    case round =>
     obtain⟨j,u,rfl,hu,hq2,hjn,HBJ⟩:=hrel
     subst hu
     by_cases hlj:j<LL
     ·have hlji:(j:Int)<(LL:Int):=by omega
      have hpx:=((HTT.out wr HBJ.out.below).at_ x r HR.out).px
      have hlok:=((HTT.out wr HBJ.out.below).at_ x r HR.out).ok
      obtain⟨lb,lo,le1,_,le3⟩:=hpx.at_ (by rw[HLL.out];omega)
      have hla:la=some ⟨lb,lo,none⟩:=HLA.out.symm.trans le1
      subst hla
      have hrg:=le3 j (by rw[HLL.out];exact hlj)
      obtain⟨en,hen⟩:∃ e,r.log.getD j dL=e:=⟨_,rfl⟩
      rw[hen] at hrg
      have heok:uy en:=by rw[<-hen];exact hlok _ (zK r.log j dL (by rw[HLL.out];exact hlj))
      obtain⟨EL,hEL⟩:∃ E,qv en=E:=⟨_,rfl⟩
      have hE45:EL.length=45:=by rw[<-hEL];exact yx heok
      have HIE:Hid ((Tryz.prog.info? 129).map (·.size)=some EL.length):=hid (by rw[hE45];kernel_rfl)
      have HIE2:Hid ((Tryz.prog.info? 129).map (·.size)=some EL.toArray.size):=hid (by rw[List.size_toArray];exact HIE.out)
      have HZ45:Hid (45=EL.toArray.size):=hid (by rw[List.size_toArray,hE45])
      have HOE:Hid (EL.toArray.all (·.oneCell')=true):=hid (all_oneCell_toArray (by rw[<-hEL];exact vZ en))
      have hso:vk (lg1 x en):=Qk HNM.out heok
      obtain⟨BE,hBE⟩:∃ B,(zX (lg1 x en)).toArray=B:=⟨_,rfl⟩
      have HBDE:Hid (∀ W:World,(Instr.build 143 #[(0,.string ⟨#[108,111,103]⟩),(1,.string ⟨x.toArray⟩),(4,.agg EL.toArray)]).run Tryz.prog W=.ok (.agg BE) W):=fun W=>by rw[<-hBE,<-hEL];exact bdE3 _ _ en heok W
      have HBSE:Hid (∀ W:World,(Instr.buildSlice 123 1 #[(0,.agg BE)]).run Tryz.prog W=.ok (.slice (some ⟨W.heap.size,0,none⟩) 1 1) (W.alloc (.cells BE 143))):=fun W=>by rw[<-hBE];exact vj _ hso W
      have HP1:Hid (∀ W:World,Px zX 68 dS (W.alloc (.cells BE 143)) (some ⟨W.heap.size,0,none⟩) 1 [lg1 x en]):=fun W=>by rw[<-hBE];have:=yu (enc:=zX) (d:=dS) W (lg1 x en) 143;rw[zJ hso] at this;exact this
      have HON:Hid (∀ y ∈ [lg1 x en],(zX y).length=68):=hid (fun y hy=>by rw[List.mem_singleton.1 hy];exact zJ hso)
      have HBJ2:Hid (Bx zX 68 143 w1 ((wr.alloc (.cells EL.toArray 129)).alloc (.cells BE 143)) G1 u (stN T (ss.take i)++fs1 x r :: (r.log.take j).map (lg1 x))):=hid ((HBJ.out.alloc _).alloc _)
      have HTK:Hid (stN T (ss.take i)++fs1 x r :: (r.log.take (j+1)).map (lg1 x)=(stN T (ss.take i)++fs1 x r :: (r.log.take j).map (lg1 x))++[lg1 x en]):=hid (by rw[qj dL r.log j (by rw[HLL.out];exact hlj),hen];simp)
      have HLB:Hid ((stN T (ss.take i)++fs1 x r :: (r.log.take j).map (lg1 x)).length + [lg1 x en].length<=1000000000):=hid (by
       have:=HLT.out
       simp only[List.length_append,List.length_cons,List.length_map,List.length_take,List.length_nil]
       omega)
      rw[hEL] at hrg
      have HRE:=hid hrg
      clear hpx hlok le3 le1 hrg hen heok hEL hE45 hso hBE
      go_wp2_with (first
       | (refine wpList_load_mid rfl 129 (.tmp 39) rfl _ _ rfl EL _ HRE.out Tryz.underlying129 rfl HIE.out ?_;go_frame)
       | (refine zq rfl 129 (.tmp 9) (.tmp 40) rfl _ EL.toArray rfl rfl HIE2.out (by rw[<-HZ45.out];rfl) HOE.out ?_;go_frame)
       | (refine zu rfl 129 (.tmp 9) rfl _ EL.toArray 129 (0,0) _ rfl (heap_alloc_new _ _) Tryz.underlying129 rfl HIE2.out ?_;go_frame)
       | (refine z8 rfl _ (vx 143 0 1 4 (.const (.string ⟨#[108,111,103]⟩)) (.tmp 42) (.tmp 43) rfl (.string ⟨#[108,111,103]⟩) (.string ⟨x.toArray⟩) (.agg EL.toArray) (.agg BE) rfl rfl rfl (HBDE.out _)) ?_;go_frame)
       | (refine z8 rfl _ (zY 123 (.tmp 44) rfl (.agg BE) _ rfl (HBSE.out _)) ?_;go_frame)
       | (at_builtin;refine zj (enc:=zX) (k:=68) (d:=dS) rfl _ _ 123 143 Zu j4 rfl (by decide) (by decide) qV rfl G1 _ _ rfl HBJ2.out _ 1 [lg1 x en] rfl (HP1.out _) HON.out HLB.out ?_;intro v6 w6 hb6 hg6 hm6;have HB6:=hid hb6;clear hb6 hg6 hm6))
      go_roundg (LL-(j+1))
      case measure=>omega
      case rel=>exact⟨j+1,_,by go_num,rfl,rfl,by omega,hid (by rw[HTK.out];exact HB6.out)⟩
     ·have hlji:¬ (j:Int)<(LL:Int):=by omega
      obtain rfl:j=LL:=by omega
      have HFN:Hid (Bx zX 68 143 w1 wr G1 u (stN T (ss.take (i+1)))):=hid (by
       have:=HBJ.out
       rw[show r.log.take j=r.log from List.take_of_length_le (by rw[HLL.out];exact Nat.le_refl _)] at this
       rw[stN_snoc T ss i (by rw[HN.out];exact hlt) r (by rw[HX.out];exact HR.out),HX.out]
       exact this)
      go_wp2
      go_roundg (N-(i+1))
      case measure=>omega
      case rel=>exact⟨i+1,_,by go_num,rfl,rfl,by omega,HFN⟩
   ·have hne:(tg == [])=false:=by simpa using h0
    have hfs:fs1 x r=⟨wL,x,r.id,r.tg,zL⟩:=by unfold fs1;rw[if_neg (by rw[htg];exact h0)]
    obtain⟨w3,hw3⟩:∃ w3,w2.alloc (.cells B0 143)=w3:=⟨_,rfl⟩
    have hb23:Below w2.heap.size w2 w3:=by rw[<-hw3];exact(Below.refl _ _).alloc (Nat.le_refl _) _
    have hk2:wr.heap.size<w2.heap.size:=by rw[hs2];exact Nat.lt_succ_self _
    have hh3:w3.heap[w2.heap.size]? = some (.cells B0 143):=by rw[<-hw3];exact heap_alloc_new _ _
    have ha3:w3.heap[wr.heap.size]? = some (.cells A 125):=(hb23.block _ hk2).trans ha2
    have ht3:w3.cell? ⟨wr.heap.size,20,none⟩=some (sV tg):=by rw[cell_of_row _ _ 20 _ _ _ ha3,<-cell_of_row _ _ 20 _ _ _ ha2];exact hc20
    have hx3:w3.cell? ⟨w2.heap.size,0,none⟩=some (sV wR):=by rw[cell_of_row _ _ 0 _ _ _ hh3,<-hB0];rfl
    have hf3:w3.frozen? ⟨w2.heap.size,0,none⟩=false:=by simp[World.frozen?,hh3]
    obtain⟨w4,hw4⟩:∃ w4,w3.setCell ⟨w2.heap.size,0,none⟩ (.string ⟨#[108,105,110,107]⟩)=w4:=⟨_,rfl⟩
    obtain⟨B,hB⟩:∃ B,(zX (fs1 x r)).toArray=B:=⟨_,rfl⟩
    have hh4:w4.heap[w2.heap.size]? = some (.cells B 143):=by
     rw[<-hw4,qy hh3 0 _,<-hB0,<-hB,hfs]
     rfl
    have hb34:∀ k,k<w2.heap.size->w4.heap[k]? = w3.heap[k]? := fun k hk=>by rw[<-hw4];exact Below.heap_setCell _ _ _ _ (by show k ≠ w2.heap.size;omega)
    have hz4:w4.heap.size=w3.heap.size:=by rw[<-hw4];simp[World.setCell]
    have hb24:Below w2.heap.size w2 w4:=⟨by rw[<-hw4];exact hb23.os,by rw[<-hw4];exact hb23.tape,by rw[<-hw4];exact hb23.output,by rw[hz4];exact hb23.size,fun k hk=>(hb34 k hk).trans (hb23.block k hk)⟩
    have ha4:w4.heap[wr.heap.size]? = some (.cells A 125):=(hb34 _ hk2).trans ha3
    have hso:vk (fs1 x r):=fs1_ok hro
    have HBC:Hid (Bx zX 68 143 w1 (w4.alloc (.cells B 143)) G1 v (stN T (ss.take i))):=hid (((HB.out.alloc (.cells A 125)).carry (by rw[hw2];exact hb24)).alloc _)
    have HS4:=hid hh4
    have HBS:Hid (∀ W:World,(Instr.buildSlice 123 1 #[(0,.agg B)]).run Tryz.prog W=.ok (.slice (some ⟨W.heap.size,0,none⟩) 1 1) (W.alloc (.cells B 143))):=fun W=>by rw[<-hB];exact vj _ hso W
    have HP1:Hid (∀ W:World,Px zX 68 dS (W.alloc (.cells B 143)) (some ⟨W.heap.size,0,none⟩) 1 [fs1 x r]):=fun W=>by rw[<-hB];have:=yu (enc:=zX) (d:=dS) W (fs1 x r) 143;rw[zJ hso] at this;exact this
    have HON:Hid (∀ y ∈ [fs1 x r],(zX y).length=68):=hid (fun y hy=>by rw[List.mem_singleton.1 hy];exact zJ hso)
    have HLB:Hid ((stN T (ss.take i)).length + [fs1 x r].length<=1000000000):=hid (by
     have:=HLT.out
     simp only[List.length_cons,List.length_nil]
     omega)
    have HIB:Hid ((Tryz.prog.info? 143).map (·.size)=some B.size):=hid (by rw[<-hB,List.size_toArray,zJ hso];kernel_rfl)
    have HK:Hid (∀ v6 w6,Mv (w4.alloc (.cells B 143)) w6 v v6->w6.cell? ⟨wr.heap.size,21,none⟩=some (.slice la LL lc)):=fun v6 w6 hm=>by
     have h1:(w4.alloc (.cells B 143)).heap[wr.heap.size]? = some (.cells A 125):=(heap_alloc_old _ _ (z7 ha4)).trans ha4
     have h2:=(hm.blk wr.heap.size (z7 h1) (fun e=>by have:=(yq HB.out.own _ e.symm).2;omega)).trans h1
     rw[cell_of_row _ _ 21 _ _ _ h2,<-cell_of_row _ _ 21 _ _ _ ha2]
     exact hc21
    have HI0:Hid ((Tryz.prog.info? 143).map (·.size)=some B0.size):=hid (by rw[<-hB0,List.size_toArray,zJ hs0];kernel_rfl)
    have HZ0:Hid (68=B0.size):=hid (by rw[<-hB0,List.size_toArray,zJ hs0])
    have HO0:Hid (B0.all (·.oneCell')=true):=hid (by rw[<-hB0];exact all_oneCell_toArray (qV _))
    unfold sV at hlk hc20 hcx ht3
    unfold sV at hx3
    clear hb23 hk2 hh3 ha3 hfs hso hh4 hb24 ha4 hB hb34 hz4 hB0 hro hs0 ha2 hc21 hs2
    go_wp2_with (first
     | (at_lookup;refine z8 rfl _ (jY (mv:=.map (some t)) (kv:=.string ⟨x.toArray⟩) rfl rfl rfl hlk) ?_;go_frame)
     | (refine zq rfl 125 (.tmp 6) (.tmp 19) rfl _ A rfl rfl HA.out.i HA.out.z HA.out.o ?_;rw[hw2];go_frame)
     | (refine wpList_load_mid rfl 89 (.tmp 21) rfl _ 0 rfl R.toList _ HRG2.out Tryz.underlying89 rfl HI89.out ?_;simp only[Array.toArray_toList];go_frame)
     | (refine z8 rfl _ (Xv 143 0 1 2 3 (.const (.string ⟨#[114,101,102]⟩)) (.tmp 20) (.tmp 22) (.tmp 24) rfl (.string ⟨#[114,101,102]⟩) (.string ⟨x.toArray⟩) (.agg R) (.string ⟨tg.toArray⟩) (.agg B0) rfl rfl rfl rfl (HBD.out _)) ?_;go_frame)
     | (refine zq rfl 143 (.tmp 7) (.tmp 25) rfl _ B0 rfl rfl HI0.out (by rw[<-HZ0.out];rfl) HO0.out ?_;rw[hw3];go_frame)
     | (refine zu rfl 143 (.tmp 7) rfl _ B 143 (0,0) _ rfl HS4.out Tryz.underlying143 rfl HIB.out ?_;go_frame)
     | (refine z8 rfl _ (zY 123 (.tmp 31) rfl (.agg B) _ rfl (HBS.out _)) ?_;go_frame)
     | (at_builtin;refine zj (enc:=zX) (k:=68) (d:=dS) rfl _ _ 123 143 Zu j4 rfl (by decide) (by decide) qV rfl G1 _ _ rfl HBC.out _ 1 [fs1 x r] rfl (HP1.out _) HON.out HLB.out ?_;intro v6 w6 hb6 hg6 hm6;have HBN:=hid hb6;have HLC:=HK.out v6 w6 hm6;clear hb6 hg6 hm6))
    go_loopg [3,37] LL (fun q sv iv wr=>∃ (j:Nat) (u:Value),iv=.int .i64 j/\u=sv/\q=LL-j/\j<=LL/\Hid (Bx zX 68 143 w1 wr G1 u (stN T (ss.take i)++fs1 x r :: (r.log.take j).map (lg1 x))))
    case atStart=>exact⟨0,_,rfl,rfl,rfl,Nat.zero_le _,hid (by simpa using HBN.out)⟩
    case round =>
     obtain⟨j,u,rfl,hu,hq2,hjn,HBJ⟩:=hrel
     subst hu
     by_cases hlj:j<LL
     ·have hlji:(j:Int)<(LL:Int):=by omega
      have hpx:=((HTT.out wr HBJ.out.below).at_ x r HR.out).px
      have hlok:=((HTT.out wr HBJ.out.below).at_ x r HR.out).ok
      obtain⟨lb,lo,le1,_,le3⟩:=hpx.at_ (by rw[HLL.out];omega)
      have hla:la=some ⟨lb,lo,none⟩:=HLA.out.symm.trans le1
      subst hla
      have hrg:=le3 j (by rw[HLL.out];exact hlj)
      obtain⟨en,hen⟩:∃ e,r.log.getD j dL=e:=⟨_,rfl⟩
      rw[hen] at hrg
      have heok:uy en:=by rw[<-hen];exact hlok _ (zK r.log j dL (by rw[HLL.out];exact hlj))
      obtain⟨EL,hEL⟩:∃ E,qv en=E:=⟨_,rfl⟩
      have hE45:EL.length=45:=by rw[<-hEL];exact yx heok
      have HIE:Hid ((Tryz.prog.info? 129).map (·.size)=some EL.length):=hid (by rw[hE45];kernel_rfl)
      have HIE2:Hid ((Tryz.prog.info? 129).map (·.size)=some EL.toArray.size):=hid (by rw[List.size_toArray];exact HIE.out)
      have HZ45:Hid (45=EL.toArray.size):=hid (by rw[List.size_toArray,hE45])
      have HOE:Hid (EL.toArray.all (·.oneCell')=true):=hid (all_oneCell_toArray (by rw[<-hEL];exact vZ en))
      have hso:vk (lg1 x en):=Qk HNM.out heok
      obtain⟨BE,hBE⟩:∃ B,(zX (lg1 x en)).toArray=B:=⟨_,rfl⟩
      have HBDE:Hid (∀ W:World,(Instr.build 143 #[(0,.string ⟨#[108,111,103]⟩),(1,.string ⟨x.toArray⟩),(4,.agg EL.toArray)]).run Tryz.prog W=.ok (.agg BE) W):=fun W=>by rw[<-hBE,<-hEL];exact bdE3 _ _ en heok W
      have HBSE:Hid (∀ W:World,(Instr.buildSlice 123 1 #[(0,.agg BE)]).run Tryz.prog W=.ok (.slice (some ⟨W.heap.size,0,none⟩) 1 1) (W.alloc (.cells BE 143))):=fun W=>by rw[<-hBE];exact vj _ hso W
      have HP1:Hid (∀ W:World,Px zX 68 dS (W.alloc (.cells BE 143)) (some ⟨W.heap.size,0,none⟩) 1 [lg1 x en]):=fun W=>by rw[<-hBE];have:=yu (enc:=zX) (d:=dS) W (lg1 x en) 143;rw[zJ hso] at this;exact this
      have HON:Hid (∀ y ∈ [lg1 x en],(zX y).length=68):=hid (fun y hy=>by rw[List.mem_singleton.1 hy];exact zJ hso)
      have HBJ2:Hid (Bx zX 68 143 w1 ((wr.alloc (.cells EL.toArray 129)).alloc (.cells BE 143)) G1 u (stN T (ss.take i)++fs1 x r :: (r.log.take j).map (lg1 x))):=hid ((HBJ.out.alloc _).alloc _)
      have HTK:Hid (stN T (ss.take i)++fs1 x r :: (r.log.take (j+1)).map (lg1 x)=(stN T (ss.take i)++fs1 x r :: (r.log.take j).map (lg1 x))++[lg1 x en]):=hid (by rw[qj dL r.log j (by rw[HLL.out];exact hlj),hen];simp)
      have HLB:Hid ((stN T (ss.take i)++fs1 x r :: (r.log.take j).map (lg1 x)).length + [lg1 x en].length<=1000000000):=hid (by
       have:=HLT.out
       simp only[List.length_append,List.length_cons,List.length_map,List.length_take,List.length_nil]
       omega)
      rw[hEL] at hrg
      have HRE:=hid hrg
      clear hpx hlok le3 le1 hrg hen heok hEL hE45 hso hBE
      go_wp2_with (first
       | (refine wpList_load_mid rfl 129 (.tmp 39) rfl _ _ rfl EL _ HRE.out Tryz.underlying129 rfl HIE.out ?_;go_frame)
       | (refine zq rfl 129 (.tmp 9) (.tmp 40) rfl _ EL.toArray rfl rfl HIE2.out (by rw[<-HZ45.out];rfl) HOE.out ?_;go_frame)
       | (refine zu rfl 129 (.tmp 9) rfl _ EL.toArray 129 (0,0) _ rfl (heap_alloc_new _ _) Tryz.underlying129 rfl HIE2.out ?_;go_frame)
       | (refine z8 rfl _ (vx 143 0 1 4 (.const (.string ⟨#[108,111,103]⟩)) (.tmp 42) (.tmp 43) rfl (.string ⟨#[108,111,103]⟩) (.string ⟨x.toArray⟩) (.agg EL.toArray) (.agg BE) rfl rfl rfl (HBDE.out _)) ?_;go_frame)
       | (refine z8 rfl _ (zY 123 (.tmp 44) rfl (.agg BE) _ rfl (HBSE.out _)) ?_;go_frame)
       | (at_builtin;refine zj (enc:=zX) (k:=68) (d:=dS) rfl _ _ 123 143 Zu j4 rfl (by decide) (by decide) qV rfl G1 _ _ rfl HBJ2.out _ 1 [lg1 x en] rfl (HP1.out _) HON.out HLB.out ?_;intro v6 w6 hb6 hg6 hm6;have HB6:=hid hb6;clear hb6 hg6 hm6))
      go_roundg (LL-(j+1))
      case measure=>omega
      case rel=>exact⟨j+1,_,by go_num,rfl,rfl,by omega,hid (by rw[HTK.out];exact HB6.out)⟩
     ·have hlji:¬ (j:Int)<(LL:Int):=by omega
      obtain rfl:j=LL:=by omega
      have HFN:Hid (Bx zX 68 143 w1 wr G1 u (stN T (ss.take (i+1)))):=hid (by
       have:=HBJ.out
       rw[show r.log.take j=r.log from List.take_of_length_le (by rw[HLL.out];exact Nat.le_refl _)] at this
       rw[stN_snoc T ss i (by rw[HN.out];exact hlt) r (by rw[HX.out];exact HR.out),HX.out]
       exact this)
      go_wp2
      go_roundg (N-(i+1))
      case measure=>omega
      case rel=>exact⟨i+1,_,by go_num,rfl,rfl,by omega,HFN⟩
  ·have hlti:¬ (i:Int)<(N:Int):=by omega
   obtain rfl:i=N:=by omega
   have HF:Hid (Bx zX 68 143 w wr w.heap.size v (stN T ss)):=hid (by
    have h1:=HB.out
    rw[List.take_of_length_le (by rw[HN.out];exact Nat.le_refl _)] at h1
    rw[HG.out]
    exact⟨Q5.out.trans (h1.below.mono hG1),qk h1.own hG1,Nat.le_trans hG1 h1.le⟩)
   go_wp2
   exact bodyPost_ret (results_tmp Tryz.results96 _ _ _) rfl ⟨v,ss,rfl,Q1.out,Q2.out,Q3.out,HF.out⟩
end Go.Proofs.YtgliaiemkfopeaaGreatDoor.K
