import Derived.Test.YticgindfipobiaaGreatDoorMn29
import Derived.Test.YticgindfipobiaaGreatDoorMn12
import Derived.Test.YticgindfipobiaaGreatDoorMn20
import Derived.Test.YticgindfipobiaaGreatDoorMn33
import Derived.Test.YticgindfipobiaaGreatDoorMn07
set_option linter.unusedSectionVars false
set_option linter.unusedSimpArgs false
set_option linter.unusedVariables false
set_option maxRecDepth 20000
set_option maxHeartbeats 4000000
namespace Go.Proofs.YticgindfipobiaaGreatDoor
open Go.RowKit Go.Shelf
def XX:Nat->List UInt8->Option Nat
 | acc,[]=>some acc
 | acc,c :: t=>if 48<=c.toNat/\c.toNat<=55/\acc*8+(c.toNat-48)<=4294967295 then XX (acc*8+(c.toNat-48)) t else none
def PU (l:List UInt8) (e:Ending):Prop := ∃ (v:Int) (ev:Value),e=.returned (.tuple #[.int .u64 v,ev])/\0<=v/\v<=4294967295/\(ev=.nilIface ∨ ev=.iface 291 (.int .i64 1) ∨ ev=.iface 291 (.int .i64 2))/\(∀ r,l ≠ []->XX 0 l=some r->v=r/\ev=.nilIface)
theorem PU.bad1 {l:List UInt8} (h:l=[] ∨ XX 0 l=none) (v:Int) (h0:0<=v) (h1:v<=4294967295):PU l (.returned (.tuple #[.int .u64 v,.iface 291 (.int .i64 1)])) :=
 ⟨v,_,rfl,h0,h1,.inr (.inl rfl),fun r hn hr=>by
  rcases h with h | h
  ·exact absurd h hn
  ·rw[h] at hr;cases hr⟩
theorem PU.bad2 {l:List UInt8} (h:l=[] ∨ XX 0 l=none):PU l (.returned (.tuple #[.int .u64 0,.iface 291 (.int .i64 2)])) :=
 ⟨0,_,rfl,by decide,by decide,.inr (.inr rfl),fun r hn hr=>by
  rcases h with h | h
  ·exact absurd h hn
  ·rw[h] at hr;cases hr⟩
theorem lower_any (c:Int) (w:World):Calls Tryz.prog 225 #[.int .u8 c] w fun e w'=>e=.returned (.int .u8 (bits .or .u8 c 32))/\w'=w:=by
 go_enter Tryz.func225,Tryz.ntmps225
 go_wp2
 go_ret
 exact⟨rfl,rfl⟩
set_option maxHeartbeats 8000000 in
set_option maxRecDepth 100000 in
theorem parseUint8 (l:List UInt8) (hl:l.length<=1000000) (w:World) :
  Calls Tryz.prog 197 #[.string ⟨l.toArray⟩,.int .i64 8,.int .i64 32] w fun e w'=>PU l e/\Below w.heap.size w w':=by
 by_cases hne:l=[]
 ·subst hne
  have HB:Hid (Below w.heap.size w w):=Below.refl _ _
  go_enter Tryz.func197,Tryz.ntmps197
  go_wp2
  go_ret2
  exact⟨PU.bad2 (.inl rfl),HB.out⟩
 ·obtain⟨S,HS⟩:=nn_ (⟨l.toArray⟩:ByteArray)
  obtain⟨n,HN⟩:=nm_ l.length
  have hn:n<=1000000:=by rw[<-HN.out];exact hl
  have hemp:S.toList.isEmpty=false:=by
   rw[HS.out,Lib.toList_data]
   simpa using hne
  obtain⟨cap,w1,hcv,hmk,hb1,_⟩:=V2 l w
  rw[<-HS.out,HN.out] at hcv
  have HB1:Hid (Below w.heap.size w w1):=hb1
  have HM:Hid (Mk w1 w.heap.size cap (q8 l)):=hmk
  have hmv:IntKind.u64.wrap (IntKind.u64.wrap 4294967296-1)=4294967295:=by
   rw[IntKind.wrap_u64,IntKind.wrap_u64]
   decide
  rw[<-HS.out]
  clear hmk hb1
  go_enter Tryz.func197,Tryz.ntmps197
  go_wp2
  go_loop [12,13,101] (fun vu vn vi=>∃ (k acc:Nat) (a:Int),vu=.bool false/\vn=.int .u64 a/\vi=.int .i64 k/\k<=n/\Hid (a=(acc:Int)/\acc<=4294967295/\XX 0 l=XX acc (l.drop k)))
   (fun _ _ vi=>n-(intOf vi).toNat)
  case atStart=>exact⟨0,0,0,rfl,rfl,rfl,by omega,rfl,by omega,rfl⟩
  case round =>
   obtain⟨k,acc,a,rfl,rfl,rfl,hk,hh⟩:=hrel
   obtain⟨ha,hacc,hdec⟩:=hh.out
   clear hh
   have a0:0<=a:=by omega
   have a1:a<=4294967295:=by omega
   by_cases hkn:k<n
   ·have hkl:k<l.length:=by rw[HN.out];exact hkn
    have hdrop:l.drop k=l[k]'hkl :: l.drop (k+1):=List.drop_eq_getElem_cons hkl
    have hc:w1.cell? ⟨w.heap.size,k,none⟩=some (.int .u8 ((l[k]'hkl).toNat:Int)):=by
     have:=HM.out.at_ k (by rw[zK];exact hkl)
     rw[Nat.zero_add] at this
     rw[this]
     simp[q8,List.getD_eq_getElem?_getD,List.getElem?_eq_getElem hkl]
    rw[hdrop] at hdec
    generalize l[k]'hkl=c at hc hdec
    have hc256:c.toNat<256:=c.toNat_lt
    clear hdrop
    by_cases hdig:48<=c.toNat/\c.toNat<=55
    ·obtain⟨hd0,hd1⟩:=hdig
     by_cases hov:4294967295<acc*8+(c.toNat-48)
     ·have hF:XX 0 l=none:=by rw[hdec];simp only[XX];rw[if_neg (by omega)]
      have HP:Hid (PU l (.returned (.tuple #[.int .u64 4294967295,.iface 291 (.int .i64 1)]))):=hid (PU.bad1 (.inr hF) _ (by decide) (by decide))
      have iov:4294967295<a*8+((c.toNat:Int)-48):=by omega
      clear hacc hF hov ha hdec
      go_wp2
      go_ret2
      exact⟨HP.out,HB1.out⟩
     ·have HN2:Hid (a*8+((c.toNat:Int)-48)=((acc*8+(c.toNat-48):Nat):Int)/\acc*8+(c.toNat-48)<=4294967295/\XX 0 l=XX (acc*8+(c.toNat-48)) (l.drop (k+1))):=hid ⟨by omega,by omega,by
       rw[hdec];simp only[XX];rw[if_pos (by omega)]⟩
      have iov:a*8+((c.toNat:Int)-48)<=4294967295:=by omega
      clear hacc hov hdec ha
      go_wp2
      refine⟨⟨k+1,acc*8+(c.toNat-48),a*8+((c.toNat:Int)-48),rfl,(by first | rfl | (congr 1;omega)),(by first | rfl | (congr 1;omega)),by omega,HN2⟩,by simp[intOf];omega⟩
    ·have hF:XX 0 l=none:=by rw[hdec];simp only[XX];rw[if_neg (by omega)]
     have HP:Hid (PU l (.returned (.tuple #[.int .u64 0,.iface 291 (.int .i64 2)]))):=hid (PU.bad2 (.inr hF))
     clear hacc hF ha hdec
     have hv0:=bits_lo_u8 .or (c.toNat:Int) 32
     have hv1:=bits_hi_u8 .or (c.toNat:Int) 32
     have hu0:=bits_lo_u8 .or 95 32
     have hu1:=bits_hi_u8 .or 95 32
     go_wp2_with (go_at_call 225;refine(lower_any _ _).mono ?_;rintro e w' ⟨rfl,rfl⟩)
     all_goals go_ret2
     all_goals exact⟨HP.out,HB1.out⟩
   ·have hkk:k=n:=by omega
    subst hkk
    have hF:XX 0 l=some acc:=by rw[hdec,List.drop_eq_nil_of_le (by rw[HN.out];exact Nat.le_refl _)];rfl
    have HP:Hid (PU l (.returned (.tuple #[.int .u64 a,.nilIface]))):=hid ⟨a,_,rfl,a0,a1,.inl rfl,fun r _ hr=>by
     rw[hF] at hr
     cases hr
     exact⟨ha,rfl⟩⟩
    clear hacc hF hdec ha
    go_wp2
    go_ret2
    exact⟨HP.out,HB1.out⟩
def PI (l:List UInt8) (e:Ending):Prop := ∃ (v:Int) (ev:Value),e=.returned (.tuple #[.int .i64 v,ev])/\(ev=.nilIface ∨ ev=.iface 291 (.int .i64 1) ∨ ev=.iface 291 (.int .i64 2))/\(∀ m,okM m->l=y7 m->v=m/\ev=.nilIface)
theorem oct_read (m:Int) (h:okM m):y7 m ≠ []/\XX 0 (y7 m)=some m.toNat/\0<=m/\m<65536/\∀ c t,y7 m=c :: t->c ≠ 43/\c ≠ 45:=by
 rcases h with rfl | rfl | rfl | rfl
 all_goals
  refine⟨by decide,by decide,by decide,by decide,?_⟩
  intro c t h
  rw[show y7 _=_ from rfl] at h
  revert h
  simp only[y7]
  simp
  rintro rfl _
  decide
theorem neq_range (w:World):(binOp .neq 35 (.iface 291 (.int .i64 1)) (.iface 291 (.int .i64 1))).run Tryz.prog w=.ok (.bool false) w:=by kernel_rfl
theorem neq_syntax (w:World):(binOp .neq 35 (.iface 291 (.int .i64 2)) (.iface 291 (.int .i64 1))).run Tryz.prog w=.ok (.bool true) w:=by kernel_rfl
set_option maxRecDepth 100000 in
theorem parseInt8 (l:List UInt8) (hl:l.length<=1000000) (w:World) :
  Calls Tryz.prog 173 #[.string ⟨l.toArray⟩,.int .i64 8,.int .i64 32] w fun e w'=>PI l e/\Below w.heap.size w w':=by
 match l,hl with
 | [],_ =>
  have HB:Hid (Below w.heap.size w w):=Below.refl _ _
  have HP:Hid (PI [] (.returned (.tuple #[.int .i64 0,.iface 291 (.int .i64 2)]))):=⟨0,_,rfl,.inr (.inr rfl),fun m hm h=>absurd h.symm (oct_read m hm).1⟩
  go_enter Tryz.func173,Tryz.ntmps173
  go_wp2
  go_ret2
  exact⟨HP.out,HB.out⟩
 | c :: t,hl =>
  obtain⟨l,HL⟩:=nm_ (c :: t)
  have hemp:(⟨l.toArray⟩:ByteArray).toList.isEmpty=false:=by rw[Lib.toList_data,<-HL.out];rfl
  have hix0:∀ w1:World,(Instr.index 9 (.string ⟨l.toArray⟩) (.int .i64 0)).run Tryz.prog w1=.ok (.int .u8 (c.toNat:Int)) w1:=fun w1=>by
   rw[<-HL.out]
   exact yk (c :: t) 0 w1 c rfl
  have hsl:∀ w1:World,(Instr.slice 9 (.string ⟨l.toArray⟩) (some (.int .i64 1)) none none).run Tryz.prog w1=.ok (.string ⟨t.toArray⟩) w1:=fun w1=>by
   rw[<-HL.out]
   exact uX (c :: t) 1 (by simp) w1
  obtain⟨S,HS⟩:=nm_ (⟨l.toArray⟩:ByteArray)
  obtain⟨T,HT⟩:=nm_ (⟨t.toArray⟩:ByteArray)
  have CS:Hid (∀ w,Calls Tryz.prog 197 #[.string S,.int .i64 8,.int .i64 32] w fun e w'=>PU l e/\Below w.heap.size w w'):=fun w=>by
   rw[<-HS.out];exact parseUint8 l (by rw[<-HL.out];exact hl) w
  have CT:Hid (∀ w,Calls Tryz.prog 197 #[.string T,.int .i64 8,.int .i64 32] w fun e w'=>PU t e/\Below w.heap.size w w'):=fun w=>by
   rw[<-HT.out];exact parseUint8 t (by simp at hl;omega) w
  obtain⟨x,HX⟩:=nm_ (c.toNat:Int)
  have hx:0<=x/\x<256:=by rw[<-HX.out];have:=c.toNat_lt;omega
  have HM:Hid (∀ m,okM m->l=y7 m->x ≠ 43/\x ≠ 45):=fun m hm h=>by
   rw[<-HL.out] at h
   have h2:=(oct_read m hm).2.2.2.2 c t h.symm
   rw[<-HX.out]
   exact⟨fun e=>h2.1 (UInt8.toNat_inj.1 (by show c.toNat=43;omega)),fun e=>h2.2 (UInt8.toNat_inj.1 (by show c.toNat=45;omega))⟩
  have hcut:IntKind.u64.wrap (IntKind.u64.wrap 2147483648-1)=2147483647:=by
   rw[IntKind.wrap_u64,IntKind.wrap_u64]
   decide
  have hq1:=neq_range
  have hq2:=neq_syntax
  rw[HL.out]
  rw[HS.out,HX.out] at hix0
  rw[HS.out,HT.out] at hsl
  rw[HS.out] at hemp
  rw[HS.out]
  by_cases h43:x=43
  ·subst h43
   have HNO:Hid (∀ m,okM m->l ≠ y7 m):=fun m hm h=>(HM.out m hm h).1 rfl
   clear hx
   go_enter Tryz.func173,Tryz.ntmps173
   go_wp2_with fail
   refine(CT.out w).mono ?_
   rintro ev w1 ⟨⟨v,er,rfl,h0,h1,hor,_⟩,hb⟩
   have HB:Hid (Below w.heap.size w w1):=hb
   have HP:Hid (∀ (v:Int) (ev:Value),(ev=.nilIface ∨ ev=.iface 291 (.int .i64 1) ∨ ev=.iface 291 (.int .i64 2))->PI l (.returned (.tuple #[.int .i64 v,ev]))):=fun v ev h=>⟨v,ev,rfl,h,fun m hm e=>absurd e (HNO.out m hm)⟩
   clear hb
   by_cases hv:v<2147483648
   ·have hv2:¬ 2147483648<=v:=by omega
    rcases hor with rfl | rfl | rfl
    all_goals
     go_wp2
     go_ret2
     exact⟨HP.out _ _ (by simp),HB.out⟩
   ·have hv2:2147483648<=v:=by omega
    rcases hor with rfl | rfl | rfl
    all_goals
     go_wp2
     go_ret2
     exact⟨HP.out _ _ (by simp),HB.out⟩
  ·by_cases h45:x=45
   ·subst h45
    have HNO:Hid (∀ m,okM m->l ≠ y7 m):=fun m hm h=>(HM.out m hm h).2 rfl
    clear hx
    go_enter Tryz.func173,Tryz.ntmps173
    go_wp2_with fail
    refine(CT.out w).mono ?_
    rintro ev w1 ⟨⟨v,er,rfl,h0,h1,hor,_⟩,hb⟩
    have HB:Hid (Below w.heap.size w w1):=hb
    have HP:Hid (∀ (v:Int) (ev:Value),(ev=.nilIface ∨ ev=.iface 291 (.int .i64 1) ∨ ev=.iface 291 (.int .i64 2))->PI l (.returned (.tuple #[.int .i64 v,ev]))):=fun v ev h=>⟨v,ev,rfl,h,fun m hm e=>absurd e (HNO.out m hm)⟩
    clear hb
    by_cases hv:v<=2147483648
    ·have hv2:¬ 2147483648<v:=by omega
     rcases hor with rfl | rfl | rfl
     all_goals
      go_wp2
      go_ret2
      exact⟨HP.out _ _ (by simp),HB.out⟩
    ·have hv2:2147483648<v:=by omega
     rcases hor with rfl | rfl | rfl
     all_goals
      go_wp2
      go_ret2
      exact⟨HP.out _ _ (by simp),HB.out⟩
   ·have b1:(x == 43)=false:=by simpa using h43
    have b2:(x == 45)=false:=by simpa using h45
    go_enter Tryz.func173,Tryz.ntmps173
    go_wp2_with fail
    refine(CS.out w).mono ?_
    rintro ev w1 ⟨⟨v,er,rfl,h0,h1,hor,hrd⟩,hb⟩
    have HB:Hid (Below w.heap.size w w1):=hb
    have HRD:Hid (∀ m,okM m->l=y7 m->v=m/\v<65536/\er=.nilIface):=fun m hm e=>by
     have h2:=oct_read m hm
     have h3:=hrd m.toNat (by rw[e];exact h2.1) (by rw[e];exact h2.2.1)
     rw[Int.toNat_of_nonneg h2.2.2.1] at h3
     exact⟨h3.1,by rw[h3.1];exact h2.2.2.2.1,h3.2⟩
    clear hb hrd
    by_cases hv:v<2147483648
    ·have hv2:¬ 2147483648<=v:=by omega
     rcases hor with rfl | rfl | rfl
     ·have HP:Hid (PI l (.returned (.tuple #[.int .i64 v,.nilIface]))):=⟨v,_,rfl,.inl rfl,fun m hm e=>⟨(HRD.out m hm e).1,rfl⟩⟩
      go_wp2
      go_ret2
      exact⟨HP.out,HB.out⟩
     all_goals
      have HP:Hid (∀ (v:Int) (ev:Value),(ev=.nilIface ∨ ev=.iface 291 (.int .i64 1) ∨ ev=.iface 291 (.int .i64 2))->PI l (.returned (.tuple #[.int .i64 v,ev]))):=fun v ev h=>⟨v,ev,rfl,h,fun m hm e=>by have:=(HRD.out m hm e).2.2;cases this⟩
      go_wp2
      go_ret2
      exact⟨HP.out _ _ (by simp),HB.out⟩
    ·have hv2:2147483648<=v:=by omega
     have HP:Hid (∀ (v:Int) (ev:Value),(ev=.nilIface ∨ ev=.iface 291 (.int .i64 1) ∨ ev=.iface 291 (.int .i64 2))->PI l (.returned (.tuple #[.int .i64 v,ev]))):=fun v ev h=>⟨v,ev,rfl,h,fun m hm e=>by have:=(HRD.out m hm e).2.1;omega⟩
     rcases hor with rfl | rfl | rfl
     all_goals
      go_wp2
      go_ret2
      exact⟨HP.out _ _ (by simp),HB.out⟩
def PMo (l:List UInt8) (e:Ending):Prop := ∃ v:Int,e=.returned (.int .i64 v)/\∀ m,okM m->l=y7 m->v=m
set_option maxRecDepth 100000 in
theorem parseIntP8 (l:List UInt8) (hl:l.length<=1000000) (w:World) (he:Ers w) :
  Calls Tryz.prog 146 #[.string ⟨l.toArray⟩,.int .i64 8,.int .i64 32] w fun e w'=>Below w.heap.size w w'/\∃ (v:Int) (ev:Value),e=.returned (.tuple #[.int .i64 v,ev])/\(ev=.nilIface ∨ ∃ N,ev=.iface 294 (.pointer (some ⟨N,0,none⟩)))/\(∀ m,okM m->l=y7 m->v=m/\ev=.nilIface):=by
 have HI:Hid (Calls Tryz.prog 173 #[.string ⟨l.toArray⟩,.int .i64 8,.int .i64 32] w fun e w'=>PI l e/\Below w.heap.size w w'):=parseInt8 l hl w
 obtain⟨S,HS⟩:=nm_ (⟨l.toArray⟩:ByteArray)
 have hsz:S.size<=281474976710656:=by rw[<-HS.out,xX];omega
 have HE:Hid (Ers w):=he
 rw[HS.out] at HI
 rw[HS.out]
 clear he
 go_enter Tryz.func146,Tryz.ntmps146
 go_wp2_with fail
 refine HI.out.mono ?_
 rintro ev w1 ⟨⟨v,er,rfl,hor,hrd⟩,hb⟩
 have HB:Hid (Below w.heap.size w w1):=hb
 have HRD:Hid (∀ m,okM m->l=y7 m->v=m/\er=.nilIface):=hrd
 obtain⟨⟨e1,hv1,hev1⟩,⟨e2,hv2,hev2⟩⟩:=HE.out.below hb
 clear hb hrd
 rcases hor with rfl | rfl | rfl
 ·clear hv1 hv2 hev1 hev2
  go_wp2
  go_ret2
  exact⟨HB.out,v,_,rfl,.inl rfl,fun m hm e=>⟨(HRD.out m hm e).1,rfl⟩⟩
 ·have C:Hid (Calls Tryz.prog 174 #[.string ⟨#[80,97,114,115,101,73,110,116]⟩,.string S,.int .i64 8,.int .i64 32,.iface 291 (.int .i64 1)] w1 fun e w'=>∃ N,e=.returned (.iface 294 (.pointer (some ⟨N,0,none⟩)))/\Below w1.heap.size w1 w'):=hid (by
   refine(Any.strconv_toError_range (ρ:=Tryz.laysC174_ren) { Tryz.laysC174 with } ⟨#[80,97,114,115,101,73,110,116]⟩ S 8 32 e2 w1 hsz hv2 hev2).mono ?_
   rintro e w2 ⟨N,rfl,h1,h2,h3⟩
   exact⟨N,rfl,h3⟩)
  clear hv1 hv2 hev1 hev2
  go_wp2_with fail
  refine C.out.mono ?_
  rintro e w2 ⟨N,rfl,hb⟩
  have HB2:Hid (Below w.heap.size w w2):=HB.out.trans (hb.mono HB.out.size)
  clear hb
  go_wp2
  go_ret2
  exact⟨HB2.out,v,_,rfl,.inr ⟨N,rfl⟩,fun m hm e=>by have:=(HRD.out m hm e).2;cases this⟩
 ·have C:Hid (Calls Tryz.prog 174 #[.string ⟨#[80,97,114,115,101,73,110,116]⟩,.string S,.int .i64 8,.int .i64 32,.iface 291 (.int .i64 2)] w1 fun e w'=>∃ N,e=.returned (.iface 294 (.pointer (some ⟨N,0,none⟩)))/\Below w1.heap.size w1 w'):=hid (by
   refine(Any.strconv_toError_syntax (ρ:=Tryz.laysC174_ren) { Tryz.laysC174 with } ⟨#[80,97,114,115,101,73,110,116]⟩ S 8 32 e1 w1 hsz hv1 hev1).mono ?_
   rintro e w2 ⟨N,rfl,h1,h2,h3⟩
   exact⟨N,rfl,h3⟩)
  clear hv1 hv2 hev1 hev2
  go_wp2_with fail
  refine C.out.mono ?_
  rintro e w2 ⟨N,rfl,hb⟩
  have HB2:Hid (Below w.heap.size w w2):=HB.out.trans (hb.mono HB.out.size)
  clear hb
  go_wp2
  go_ret2
  exact⟨HB2.out,v,_,rfl,.inr ⟨N,rfl⟩,fun m hm e=>by have:=(HRD.out m hm e).2;cases this⟩
set_option maxRecDepth 100000 in
theorem modeOf_any (l:List UInt8) (hl:l.length<=1000000) (w:World) (he:Ers w) :
  Calls Tryz.prog 112 #[.string ⟨l.toArray⟩] w fun e w'=>Below w.heap.size w w'/\PMo l e:=by
 have HI:Hid (Calls Tryz.prog 146 #[.string ⟨l.toArray⟩,.int .i64 8,.int .i64 32] w fun e w'=>Below w.heap.size w w'/\∃ (v:Int) (ev:Value),e=.returned (.tuple #[.int .i64 v,ev])/\(ev=.nilIface ∨ ∃ N,ev=.iface 294 (.pointer (some ⟨N,0,none⟩)))/\(∀ m,okM m->l=y7 m->v=m/\ev=.nilIface)):=parseIntP8 l hl w he
 obtain⟨S,HS⟩:=nm_ (⟨l.toArray⟩:ByteArray)
 rw[HS.out] at HI
 rw[HS.out]
 clear he
 go_enter Tryz.func112,Tryz.ntmps112
 go_wp2_with fail
 refine HI.out.mono ?_
 rintro ev w1 ⟨hb,v,er,rfl,hor,hrd⟩
 have HB:Hid (Below w.heap.size w w1):=hb
 have HRD:Hid (∀ m,okM m->l=y7 m->v=m/\er=.nilIface):=hrd
 clear hb hrd
 rcases hor with rfl | ⟨N,rfl⟩
 ·go_wp2
  go_ret
  exact⟨HB.out,v,rfl,fun m hm e=>(HRD.out m hm e).1⟩
 ·go_wp2
  go_ret
  exact⟨HB.out,0,rfl,fun m hm e=>by have:=(HRD.out m hm e).2;cases this⟩
end Go.Proofs.YticgindfipobiaaGreatDoor
namespace Go.Proofs.YticgindfipobiaaGreatDoor
open Go.RowKit
variable [Inhabited Er] [Inhabited En]
theorem bl_lt:∀ x y:List UInt8,Op.bytesLess x y=decide (x<y)
 | [],[]=>by simp[Op.bytesLess]
 | [],b :: y=>by simp[Op.bytesLess]
 | a :: x,[]=>by simp[Op.bytesLess]
 | a :: x,b :: y=>by
  rw[Op.bytesLess,bl_lt x y]
  rw[Bool.eq_iff_iff]
  simp[List.cons_lt_cons_iff]
theorem leq_iff (x y:List UInt8):(Op.bytesLess x y || x == y)=decide (¬ y<x):=by
 rw[bl_lt,Bool.eq_iff_iff]
 simp only[Bool.or_eq_true,decide_eq_true_eq,beq_iff_eq]
 constructor
 ·rintro(h | h)
  ·exact fun h2=>uK _ (jw _ _ _ h h2)
  ·rw[h];exact uK _
 ·intro h
  by_cases h2:x<y
  ·exact .inl h2
  ·exact .inr (lex_total _ _ h2 h)
theorem ins_at (x:Er):∀ (l:List Er) (p:Nat),p<=l.length->(∀ j,j<p->¬ qV x<qV (l.getD j default))->(p=l.length ∨ qV x<qV (l.getD p default))->ins x l=l.take p++x :: l.drop p
 | [],p,hp,_,_=>by
  have:p=0:=by simpa using hp
  subst this
  simp[ins]
 | y :: t,0,_,_,h=>by
  rw[ins,if_pos]
  ·simp
  ·rcases h with h | h
   ·simp at h
   ·simpa using h
 | y :: t,p+1,hp,hn,h=>by
  rw[ins,if_neg (by simpa using hn 0 (by omega)),ins_at x t p (by simpa using hp) (fun j hj=>by simpa using hn (j+1) (by omega)) (by simpa using h)]
  simp
theorem srtE_snoc (l:List Er) (x:Er):yx (l++[x])=ins x (yx l):=by simp[yx]
theorem Tryz.info117:(Tryz.prog.info? 117).map (fun i=>(i.zero,i.size,i.bytes))=some (some (.agg (erV ⟨0,[],z20⟩).toArray),22,48):=by kernel_rfl
theorem size103:(Tryz.prog.info? 117).map (·.size)=some 22:=by kernel_rfl
theorem zero103 (w:World):(zeroValue 117).run Tryz.prog w=.ok (.agg (erV ⟨0,[],z20⟩).toArray) w:=by kernel_rfl
structure Be (w0 w:World) (B:Nat) (v:Value) (es:List Er):Prop where
 below:Below B w0 w
 own:w.ownsRow B 117 22 v es.length (fE es)
 le:B<=w.heap.size
theorem Be.alloc {w0 w:World} {B:Nat} {v:Value} {es:List Er} (h:Be w0 w B v es) (o:Obj):Be w0 (w.alloc o) B v es :=
 ⟨h.below.alloc h.le o,h.own.alloc o,Nat.le_trans h.le (by simp)⟩
theorem be_nil (w:World) (B:Nat) (h:B<=w.heap.size):Be w w B (.slice none 0 0) []:=⟨Below.refl _ _,⟨rfl,.inl ⟨rfl,rfl⟩⟩,h⟩
theorem Be.carry {w0 w w':World} {B:Nat} {v:Value} {es:List Er} (h:Be w0 w B v es) (hb:Below w.heap.size w w'):Be w0 w' B v es :=
 ⟨h.below.trans (hb.mono h.le),h.own.kept (row:=none) ⟨hb.os,hb.tape,hb.output,hb.size,fun k hk _=>hb.block k hk⟩ (by cases h:v.ownBlock <;> simp),Nat.le_trans h.le hb.size⟩
theorem fE_len (es:List Er) (h:∀ x ∈ es,x.id.length=20):(fE es).length=es.length*22:=by
 induction es with
 | nil=>rfl
 | cons x es ih =>
  have h1:=ih (fun y hy=>h y (by simp[hy]))
  have h2:(erV x).length=22:=yz x (h x (by simp))
  simp only[fE,List.flatMap_cons,List.length_append,List.length_cons] at h1 ⊢
  omega
theorem fE_app (x y:List Er):fE (x++y)=fE x++fE y:=by simp[fE]
theorem fE_one (es:List Er):∀ v ∈ fE es,v.oneCell'=true:=by
 intro v hv
 obtain⟨x,_,h⟩:=List.mem_flatMap.1 hv
 exact j0 x v h
theorem Pe.cells {w:World} {b off cap:Nat} {es:List Er} (h:Pe w (some ⟨b,off,none⟩) cap es) (hw:∀ x ∈ es,x.id.length=20):∀ (j:Nat) (u:Value),(fE es)[j]? = some u->w.cell? ((⟨b,off,none⟩:Addr).add j)=some u:=by
 intro j u hj
 have hlt:=(List.getElem?_eq_some_iff.1 hj).1
 rw[fE_len es hw] at hlt
 have hd:j / 22<es.length:=Nat.div_lt_of_lt_mul (by omega)
 have hm:j % 22<22:=Nat.mod_lt _ (by omega)
 obtain⟨b',off',e1,e2,e3⟩:=h.at_ (by omega)
 cases e1
 have e:j / 22*22+j % 22=j:=by omega
 have hf:=fE_at es hw (j / 22) (j % 22) hd hm
 rw[e,hj] at hf
 have:=e3 (j / 22) hd (j % 22) u hf.symm
 rw[qz,<-this]
 congr 2
 omega
theorem xV {w w0:World} {ops:Array Oper} {rest:List Oper} {o:Oper} {a:Act} {Q:Exit->Act->World->Prop} (hgd:o.guard=none) (s x:Operand) (ho:o.op=.call { callee:=.builtin .append,args:=#[s,x],argTypes:=#[113,113] }) (B:Nat) (v:Value) (es:List Er) (hs:a.eval s=v) (h:Be w0 w B v es)
    (ax:Option Addr) (cx:Nat) (l:List Er) (hx:a.eval x=.slice ax l.length cx) (hP:Pe w ax cx l) (hw:∀ x ∈ l,x.id.length=20) (hl:es.length+l.length<=3000)
    (hK:∀ v' w',Be w0 w' B v' (es++l)->w.grownBy w' v.ownBlock->wpList Tryz.prog ops Q rest (a.put o.dst v') w'):wpList Tryz.prog ops Q (o :: rest) a w:=by
  obtain⟨i,hi,hz0,hz1,hz2⟩:=zQ Tryz.info117
  cases ax with
  | none =>
    have hc:cx=0:=hP.nil rfl
    have hcl:=hP.capl
    obtain rfl:l=[]:=List.length_eq_zero_iff.1 (by omega)
    subst hc
    refine wpList_plain hgd fun K hK'=>?_
    have hr:=run_append_owned_none (P:=Tryz.prog) w B 113 o.type 117 i 22 Tryz.underlying113 hi v _ _ h.own
    unfold Oper.wp execOp
    simp only[List.length_nil] at hx
    simp only[ho,resolve,invoke,builtin,Sem.run_bind,Sem.run_pure,Result.andThen_ok,List.map_toArray,List.map_cons,List.map_nil,hs,hx,hr]
    exact hK' _ _ (hK v w (by simpa using h) ⟨rfl,rfl,rfl,Nat.le_refl _,fun _ _ _=>rfl⟩)
  | some ad =>
    obtain⟨bk,of,fr⟩:=ad
    by_cases h0:l.length=0
    · obtain rfl:l=[]:=List.length_eq_zero_iff.1 h0
      refine wpList_append_own_at w hgd s x 113 ho B 117 i (.agg (erV ⟨0,[],z20⟩).toArray) 22 48 Tryz.underlying113 hi hz0 hz1 hz2 rfl (by decide) v _ _ hs h.own ⟨bk,of,fr⟩ 0 cx [] hx rfl (fun j u hj=>by cases hj) (fun u hu=>by cases hu) (by unfold maxLen;omega) (by omega) h.le ?_
      intro v' w' h1 h2 h3 h4
      refine hK v' w' ⟨h.below.grown h2 h.le (fun k hk=>(qW h.own k hk).1),?_,Nat.le_trans h.le h2.size⟩ h2
      simpa using h1
    · obtain⟨b',off',e1,_⟩:=hP.at_ (by omega)
      cases e1
      refine wpList_append_own_at w hgd s x 113 ho B 117 i (.agg (erV ⟨0,[],z20⟩).toArray) 22 48 Tryz.underlying113 hi hz0 hz1 hz2 rfl (by decide) v _ _ hs h.own ⟨bk,of,none⟩ l.length cx (fE l) hx (fE_len l hw) (hP.cells hw) (fE_one l) (by unfold maxLen;omega) (by omega) h.le ?_
      intro v' w' h1 h2 h3 h4
      refine hK v' w' ⟨h.below.grown h2 h.le (fun k hk=>(qW h.own k hk).1),?_,Nat.le_trans h.le h2.size⟩ h2
      rw[List.length_append,fE_app]
      exact h1
end Go.Proofs.YticgindfipobiaaGreatDoor
