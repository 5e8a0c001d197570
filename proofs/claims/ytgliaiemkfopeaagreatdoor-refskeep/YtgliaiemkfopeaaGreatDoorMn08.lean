import Derived.Test.YtgliaiemkfopeaaGreatDoorMn07
import Derived.Test.YtgliaiemkfopeaaGreatDoorMn06
import Derived.Shelf.Strconv.AtoiAll
import Derived.Test.YtgliaiemkfopeaaGreatDoorMn04
import Derived.Test.YtgliaiemkfopeaaGreatDoorMn05
import Derived.Test.YtgliaiemkfopeaaGreatDoorMn03
import Derived.Deep.Onto
import Derived.Lib.AppendStr
import Derived.Maps.AppendAt
import Derived.Test.YtgliaiemkfopeaaGreatDoorMn01
import Derived.ChangeKeysEq
import Derived.Laws.StructEq
import Derived.StillTail
import Derived.WalkKit
import Derived.ProofKit
import Derived.OpenShut
import Derived.Below
import Derived.Deep.DeepHandedRow
import Derived.Lib.LaidTab
import Derived.LaidLaws
import Derived.LaidHandle
import Derived.ChangeSame
import Derived.Shelf.LaysM
import Derived.Test.YtgliaiemkfopeaaGreatDoorMn02
set_option linter.unusedSimpArgs false
set_option linter.unusedVariables false
set_option maxRecDepth 20000
set_option maxHeartbeats 4000000
namespace Go.Proofs.YtgliaiemkfopeaaGreatDoor
open Go.RowKit
def N43:Array Value:=(row .u32 init5.l++row .u8 (List.replicate 64 0)++([.int .u64 0] : List Value)).toArray
theorem new_dig {w:World} {g:Nat} (h:w.heap[g]? = some (.cells N43 296 (0,0))):Dig w g []:=by
 have hlt:g<w.heap.size:=by
  rcases Nat.lt_or_ge g w.heap.size with h' | h'
  ·exact h'
  ·rw[Array.getElem?_eq_none h'] at h;cases h
 have c:∀ i,w.cell? ⟨g,i,none⟩=N43[i]? := fun i=>cell_of_row w g i _ 296 _ h
 refine⟨hlt,fun i hi=>?_,⟨List.replicate 64 0,by simp,?_,fun i hi=>?_,fun i hi=>by simp at hi⟩,by rw[c];rfl,fun i=>frozen_of_row w g i _ 296 h⟩
 ·rw[c]
  match i,hi with
  | 0,_=>rfl
  | 1,_=>rfl
  | 2,_=>rfl
  | 3,_=>rfl
  | 4,_=>rfl
 ·intro x hx;rw[List.mem_replicate] at hx;omega
 ·rw[c]
  have e:N43[5+i]? = (row .u8 (List.replicate 64 0))[i]? := by
   simp only[N43,List.getElem?_toArray]
   rw[List.getElem?_append_left (by rw[List.length_append,zw,zw];simp[S5.l,init5];omega),List.getElem?_append_right (by rw[zw];simp[S5.l,init5])]
   congr 1
   rw[zw];simp[S5.l,init5]
  rw[e,uK .u8 _ i (by simpa using hi)]
set_option maxHeartbeats 2000000 in
theorem new_any (w:World):Calls Tryz.prog 155 #[] w fun e w'=>e=.returned (.pointer (some ⟨w.heap.size,0,none⟩))/\w'=w.alloc (.cells N43 296):=by
 obtain⟨z43,HZ43⟩:=nn_ Z43
 have hz43:=zero43
 rw[<-HZ43.out] at hz43
 have hsz:z43.size=70:=by rw[HZ43.out];rfl
 have HE:Hid (((((z43.setIfInBounds 0 (.int .u32 1732584193)).setIfInBounds 1 (.int .u32 4023233417)).setIfInBounds 2 (.int .u32 2562383102)).setIfInBounds 3 (.int .u32 271733878)).setIfInBounds 4 (.int .u32 3285377520)=N43):=hid (by rw[HZ43.out];rfl)
 go_enter Tryz.func155,Tryz.ntmps155
 go_wp2
 go_ret
 refine⟨rfl,?_⟩
 rw[<-HE.out]
set_option maxHeartbeats 2000000 in
theorem sum6 (a:Option Addr) (cap:Nat) (zs:List Int) (w:World) (hl:zs.length<=300000000) (hz:IsB zs) (hc:0<zs.length->∃ b off,a=some ⟨b,off,none⟩/\b<w.heap.size/\At w b off zs/\zs.length<=cap) :
  Calls Tryz.prog 125 #[.slice a zs.length cap] w fun e w'=>e=.returned (.agg (row .u8 (sha zs)).toArray)/\Below w.heap.size w w':=by
 obtain⟨zr,HZ⟩:=nn_ ((row .u8 z20).toArray)
 have hz25:=zero25
 rw[<-HZ.out] at hz25
 obtain⟨fr,HE⟩:=nn_ (sha zs)
 have hfl:fr.length=20:=by rw[HE.out];exact QY _
 have hi25:(Tryz.prog.info? 89).map (·.size)=some (row .u8 fr).length:=by rw[zw,hfl];exact Tryz.size89
 have T2:Hid ((Tryz.prog.info? 89).map (·.size)=some (row .u8 fr).toArray.size):=hid (by rw[vw,hfl];exact Tryz.size89)
 have T3:Hid ((row .u8 fr).toArray.all (·.oneCell')=true):=all_oneCell_toArray (yQ _ _)
 obtain⟨w0,HW0⟩:=nn_ (w.alloc (.cells zr 89))
 have hs0:w0.heap.size=w.heap.size+1:=by rw[HW0.out];simp
 have HR0:Hid (w0.heap[w.heap.size]? = some (.cells (row .u8 z20).toArray 89 (0,0))):=hid (by rw[HW0.out,HZ.out];exact heap_alloc_new w _)
 have HB0:Hid (Below w.heap.size w w0):=hid (by rw[HW0.out];exact(Below.refl _ w).alloc (Nat.le_refl _) _)
 replace hs0:=hid hs0
 go_enter Tryz.func125,Tryz.ntmps125
 go_wp2_with fail
 rw[<-HW0.out]
 refine(new_any w0).mono ?_
 rintro e w1 ⟨rfl,hw1⟩
 have HD1:Dig w1 w0.heap.size []:=new_dig (by rw[hw1];exact heap_alloc_new w0 _)
 have HX1:Hid (Below w0.heap.size w0 w1):=hid (by rw[hw1];exact(Below.refl _ w0).alloc (Nat.le_refl _) _)
 clear hw1
 rw[hs0.out] at HD1
 have HX1':Hid (Below (w.heap.size+1) w0 w1):=hid (by rw[<-hs0.out];exact HX1.out)
 rw[hs0.out]
 go_wp2_with fail
 refine(X7 (w.heap.size+1) [] a cap zs w1 HD1 (by simp;omega) (fun x hx=>by cases hx) hz (fun h=>by
  obtain⟨b,off,h1,h2,h3,h4⟩:=hc h
  exact⟨b,off,h1,by have:=HX1'.out.size;have:=hs0.out;omega,by omega,fun i hi=>(HX1'.out.cell (p:=⟨b,off+i,none⟩) (by show b<_;omega)).trans ((HB0.out.cell (p:=⟨b,off+i,none⟩) h2).trans (h3 i hi)),h4⟩)).mono ?_
 rintro e w2 ⟨rfl,hD2,hg2⟩
 rw[List.nil_append] at hD2
 have hsz1:=HX1'.out.size
 have hsz2:=hg2.size
 have HB2:Hid (Below w.heap.size w w2):=(HB0.out.trans (HX1'.out.mono (by omega))).grown hg2 (by have:=hs0.out;omega) (fun k hk=>by simp at hk;omega)
 have HR2:Hid (w2.heap[w.heap.size]? = some (.cells (row .u8 z20).toArray 89 (0,0))):=(hg2.block _ (by have:=hs0.out;omega) (by simp)).trans ((HX1'.out.block _ (by omega)).trans HR0.out)
 have hw2:w.heap.size<w2.heap.size:=by have:=hs0.out;omega
 replace hg2:=hid hg2
 replace hD2:=hid hD2
 go_wp2_with fail
 refine(sum_any (w.heap.size+1) zs w2 hD2.out (by omega) hz).mono ?_
 rintro e w3 ⟨rfl,hb3⟩
 have HB3:Hid (Below w.heap.size w w3):=HB2.out.trans (hb3.mono (by omega))
 have HR3:Hid (w3.heap[w.heap.size]? = some (.cells (row .u8 z20).toArray 89 (0,0))):=(hb3.block _ hw2).trans HR2.out
 have T1:Hid (w3.there w.heap.size 0 (row .u8 fr).toArray.size):=hid (by rw[vw,hfl];exact yJ HR3.out rfl)
 have T4:Hid (w3.there w.heap.size 0 (row .u8 fr).length):=hid (by rw[zw,hfl];exact yJ HR3.out rfl)
 rw[<-HE.out]
 go_wp2_with (refine wpList_store_mid rfl 89 _ _ rfl w.heap.size 0 (row .u8 fr).toArray rfl rfl T1.out T2.out T3.out ?_)
 exact bodyPost_ret (v:=.agg (row .u8 fr).toArray) (qW Tryz.results125 _ _ w.heap.size _ _ rfl (World.rangeAt_setCells_same w3 w.heap.size 0 _ T4.out) Tryz.underlying89 rfl hi25) rfl ⟨by rw[HE.out],zW (Nat.le_refl _) _ _ _ _ HB3.out⟩
def PId (t:List UInt8) (fr:List Int):Prop:=fr.length=20/\(∀ n ∈ fr,0<=n/\n<256)/\((t.length=40/\Hx.good ⟨t.toArray⟩)->fr=Hx.idAt ⟨t.toArray⟩ 40)
def PostP (t:List UInt8) (e:Ending):Prop := ∃ (fr:List Int) (ev:Value),e=.returned (.tuple #[.agg (row .u8 fr).toArray,ev])/\PId t fr
theorem parse_short (t:List UInt8) (w:World) (hl:t.length<=300000000):Calls Tryz.prog 227 #[.string ⟨t.toArray⟩] w fun e w'=>Below w.heap.size w w'/\PostP t e:=by
 have hsz:(⟨t.toArray⟩:ByteArray).size=t.length:=by simp[ByteArray.size]
 refine(Hx.parse_prog ⟨t.toArray⟩ w (by rw[hsz];exact hl)).mono ?_
 rintro e w' ⟨hb,h1,h2⟩
 refine⟨hb,?_⟩
 rw[hsz] at h1 h2
 by_cases h:t.length=40/\Hx.good ⟨t.toArray⟩
 ·exact⟨Hx.idAt ⟨t.toArray⟩ 40,_,h1 h,Hx.idAt_len _ _,fun n hn=>Hx.idAt_bd _ _ n hn,fun _=>rfl⟩
 ·exact⟨Hx.zeros,_,h2 h,rfl,fun n hn=>by rw[List.eq_of_mem_replicate hn];omega,fun h3=>absurd h3 h⟩
def Ers (w:World):Prop:=(∃ ev,w.cell? ⟨4,0,none⟩=some ev/\(ev=.nilIface ∨ ∃ te pe,ev=.iface te pe))/\(∃ ev,w.cell? ⟨5,0,none⟩=some ev/\(ev=.nilIface ∨ ∃ te pe,ev=.iface te pe))
theorem cell_lt {w:World} {p:Addr} {v:Value} (h:w.cell? p=some v):p.block<w.heap.size:=by
 rcases Nat.lt_or_ge p.block w.heap.size with h' | h'
 ·exact h'
 ·simp[World.cell?,Array.getElem?_eq_none h'] at h
theorem Ers.below {w w':World} (h:Ers w) (hb:Below w.heap.size w w'):Ers w':=by
 obtain⟨⟨e1,h1,k1⟩,⟨e2,h2,k2⟩⟩:=h
 exact⟨⟨e1,(hb.cell (cell_lt h1)).trans h1,k1⟩,⟨e2,(hb.cell (cell_lt h2)).trans h2,k2⟩⟩
theorem below_bw (w:World) (e:TypeId) (s:ByteArray):Below w.heap.size w (Lib.bytesWorld w e s):=⟨rfl,rfl,rfl,by rw[Lib.bytesWorld_size];omega,fun k hk=>Lib.bytesWorld_at_old w e s k hk⟩
def PA (r:Lib.NumEnd Int) (e:Ending):Prop := ∃ x ev,e=.returned (.tuple #[.int .i64 x,ev])/\((ev=.nilIface/\r=.ok x) ∨ ((∃ N,ev=.iface 327 (.pointer (some ⟨N,0,none⟩)))/\∀ v,r ≠ .ok v))
theorem atoi_short (l:List UInt8) (hl:l.length<=1000000) (w:World) (he:Ers w):Calls Tryz.prog 242 #[.string ⟨l.toArray⟩] w fun e w'=>Below w.heap.size w w'/\PA (Lib.atoiAll l) e:=by
 have hsz:(⟨l.toArray⟩:ByteArray).size=l.length:=by simp[ByteArray.size]
 obtain⟨⟨e1,h1,k1⟩,⟨e2,h2,k2⟩⟩:=he
 cases hr:Lib.atoiAll l with
 | ok v =>
  refine(Any.strconv_Atoi_ok Tryz.laysC172 ⟨l.toArray⟩ (by rw[hsz];omega) v hr w).mono ?_
  rintro e w' ⟨rfl,h⟩
  refine⟨?_,_,_,rfl,.inl ⟨rfl,rfl⟩⟩
  rcases h with rfl | ⟨t,rfl⟩
  ·exact Below.refl _ _
  ·exact below_bw _ _ _
 | «syntax» =>
  refine(Any.strconv_Atoi_syntax Tryz.laysC172 ⟨l.toArray⟩ (by rw[hsz];omega) hr e1 w h1 k1).mono ?_
  rintro e w' ⟨N,rfl,-,-,h⟩
  exact⟨h,_,_,rfl,.inr ⟨⟨N,rfl⟩,fun v hv=>by cases hv⟩⟩
 | range =>
  refine(Any.strconv_Atoi_range Tryz.laysC172 ⟨l.toArray⟩ (by rw[hsz];omega) hr e2 w h2 k2).mono ?_
  rintro e w' ⟨N,rfl,-,-,h⟩
  exact⟨h,_,_,rfl,.inr ⟨⟨N,rfl⟩,fun v hv=>by cases hv⟩⟩
theorem parseInt_short (l:List UInt8) (hl:l.length<=1000000) (w:World) (he:Ers w):Calls Tryz.prog 164 #[.string ⟨l.toArray⟩,.int .i64 10,.int .i64 64] w fun e w'=>Below w.heap.size w w'/\PA (Lib.parseIntB 64 l) e:=by
 have hsz:(⟨l.toArray⟩:ByteArray).size=l.length:=by simp[ByteArray.size]
 obtain⟨⟨e1,h1,k1⟩,⟨e2,h2,k2⟩⟩:=he
 cases hr:Lib.parseIntB 64 l with
 | ok v =>
  refine(Any.strconv_ParseInt_10_at64_ok Tryz.laysC174 ⟨l.toArray⟩ (by rw[hsz];omega) v hr w).mono ?_
  rintro e w' ⟨rfl,h⟩
  refine⟨?_,_,_,rfl,.inl ⟨rfl,rfl⟩⟩
  rcases h with rfl | ⟨t,rfl⟩
  ·exact Below.refl _ _
  ·exact below_bw _ _ _
 | «syntax» =>
  refine(Any.strconv_ParseInt_10_at64_syntax Tryz.laysC174 ⟨l.toArray⟩ (by rw[hsz];omega) hr e1 w h1 k1).mono ?_
  rintro e w' ⟨N,rfl,-,-,h⟩
  exact⟨h,_,_,rfl,.inr ⟨⟨N,rfl⟩,fun v hv=>by cases hv⟩⟩
 | range =>
  refine(Any.strconv_ParseInt_10_at64_range Tryz.laysC174 ⟨l.toArray⟩ (by rw[hsz];omega) hr e2 w h2 k2).mono ?_
  rintro e w' ⟨N,rfl,-,-,h⟩
  exact⟨h,_,_,rfl,.inr ⟨⟨N,rfl⟩,fun v hv=>by cases hv⟩⟩
def PZ (l:List UInt8) (z:Int):Prop := ∀ v,Lib.atoiAll l=.ok v->-10000<=v->v<=10000->z=v.tdiv 100*60+v.tmod 100
def PostZ (l:List UInt8) (e:Ending):Prop := ∃ z,e=.returned (.int .i64 z)/\PZ l z
theorem zoneOf_any (l:List UInt8) (hl:l.length<=1000000) (w:World) (he:Ers w):Calls Tryz.prog 241 #[.string ⟨l.toArray⟩] w fun e w'=>Below w.heap.size w w'/\PostZ l e:=by
 obtain⟨S,HS⟩:=nm_ (⟨l.toArray⟩:ByteArray)
 have HA:Hid (Calls Tryz.prog 242 #[.string S] w fun e w'=>Below w.heap.size w w'/\PA (Lib.atoiAll l) e):=hid (by rw[<-HS.out];exact atoi_short l hl w he)
 rw[HS.out]
 clear he
 go_enter Tryz.func241,Tryz.ntmps241
 go_wp2_with fail
 refine HA.out.mono ?_
 rintro e w1 ⟨hb,x,ev,rfl,hx⟩
 have HB:Hid (Below w.heap.size w w1):=hb
 have HX:Hid ((ev=.nilIface/\Lib.atoiAll l=.ok x) ∨ ((∃ N,ev=.iface 327 (.pointer (some ⟨N,0,none⟩)))/\∀ v,Lib.atoiAll l ≠ .ok v)):=hx
 clear hb hx
 rcases HX.out with ⟨rfl,hok⟩ | ⟨⟨N,rfl⟩,hno⟩
 ·have HOK:Hid (Lib.atoiAll l=.ok x):=hok
  clear hok HX
  by_cases hr : -10000<=x/\x<=10000
  ·obtain⟨r1,r2⟩:=hr
   obtain⟨q,HQ⟩:=nm_ (x.tdiv 100)
   obtain⟨m,HM⟩:=nm_ (x.tmod 100)
   have hq:x.tdiv 100=q:=HQ.out
   have hm:x.tmod 100=m:=HM.out
   have q1 : -100<=q/\q<=100:=by
    have h1:=Int.mul_tdiv_add_tmod x 100
    have h2:m.natAbs<100:=by rw[<-hm];have:=Int.natAbs_tmod x 100;rw[this];exact Nat.mod_lt _ (by decide)
    rw[hq,hm] at h1
    omega
   have m1 : -100<=m/\m<=100:=by
    have h2:m.natAbs<100:=by rw[<-hm];have:=Int.natAbs_tmod x 100;rw[this];exact Nat.mod_lt _ (by decide)
    omega
   obtain⟨q1,q2⟩:=q1
   obtain⟨m1,m2⟩:=m1
   go_wp2
   go_ret
   refine⟨HB.out,_,rfl,?_⟩
   intro v hv _ _
   rw[HOK.out] at hv
   cases hv
   rw[HQ.out,HM.out]
  ·have HR:Hid (¬ (-10000<=x/\x<=10000)):=hr
   clear hr
   go_wp2
   go_ret
   refine⟨HB.out,_,rfl,?_⟩
   intro v hv h1 h2
   rw[HOK.out] at hv
   cases hv
   exact absurd ⟨h1,h2⟩ HR.out
 ·have HNO:Hid (∀ v,Lib.atoiAll l ≠ .ok v):=hno
  clear hno HX
  go_wp2
  go_ret
  exact⟨HB.out,_,rfl,fun v hv=>absurd hv (HNO.out v)⟩
def p1 (l:List UInt8):List UInt8:=(Lib.cut l [32,60]).1
def p2 (l:List UInt8):List UInt8:=(Lib.cut (Lib.cut l [32,60]).2.1 [62,32]).1
def p3 (l:List UInt8):List UInt8:=(Lib.cut (Lib.cut (Lib.cut l [32,60]).2.1 [62,32]).2.1 [32]).1
def p4 (l:List UInt8):List UInt8:=(Lib.cut (Lib.cut (Lib.cut l [32,60]).2.1 [62,32]).2.1 [32]).2.1
theorem cut_le1 (s sep:List UInt8):(Lib.cut s sep).1.length<=s.length:=by
 unfold Lib.cut
 split
 ·simp only[List.length_take];omega
 ·exact Nat.le_refl _
theorem cut_le2 (s sep:List UInt8):(Lib.cut s sep).2.1.length<=s.length:=by
 unfold Lib.cut
 split
 ·simp only[List.length_drop];omega
 ·simp
def PP (l:List UInt8) (p:Per):Prop:=p.name.length<=l.length/\p.mail.length<=l.length/\∀ v,Lib.parseIntB 64 (p3 l)=.ok v->p.name=p1 l/\p.mail=p2 l/\p.time=v/\PZ (p4 l) p.zone
def PostQ (l:List UInt8) (e:Ending):Prop := ∃ p,e=.returned (.agg (xq p))/\PP l p
theorem Tryz.results228:Tryz.f228.results=#[.cell 2 38]:=by kernel_rfl
theorem Tryz.size38:(Tryz.prog.info? 38).map (·.size)=some 4:=by kernel_rfl
set_option maxHeartbeats 1000000 in
theorem personOf_any (l:List UInt8) (hl:l.length<=1000000) (w:World) (he:Ers w) (hm:Mx w):Calls Tryz.prog 228 #[.string ⟨l.toArray⟩] w fun e w'=>Below w.heap.size w w'/\PostQ l e:=by
 obtain⟨S,HS⟩:=nm_ (⟨l.toArray⟩:ByteArray)
 obtain⟨A1,H1⟩:=nm_ (⟨(p1 l).toArray⟩:ByteArray)
 obtain⟨A2,H2⟩:=nm_ (⟨(p2 l).toArray⟩:ByteArray)
 obtain⟨A3,H3⟩:=nm_ (⟨(p3 l).toArray⟩:ByteArray)
 obtain⟨A4,H4⟩:=nm_ (⟨(p4 l).toArray⟩:ByteArray)
 obtain⟨r1,K1⟩:=nm_ ((Lib.cut l [32,60]).2.1)
 obtain⟨r2,K2⟩:=nm_ ((Lib.cut r1 [62,32]).2.1)
 obtain⟨R1,L1⟩:=nm_ (⟨r1.toArray⟩:ByteArray)
 obtain⟨R2,L2⟩:=nm_ (⟨r2.toArray⟩:ByteArray)
 obtain⟨f1,F1⟩:=nm_ ((Lib.cut l [32,60]).2.2)
 obtain⟨f2,F2⟩:=nm_ ((Lib.cut r1 [62,32]).2.2)
 obtain⟨f3,F3⟩:=nm_ ((Lib.cut r2 [32]).2.2)
 have q1:Hid (r1.length<=l.length):=hid (by rw[<-K1.out];exact cut_le2 _ _)
 have q2:Hid (r2.length<=l.length):=hid (by rw[<-K2.out];exact Nat.le_trans (cut_le2 _ _) q1.out)
 have q3:Hid ((p3 l).length<=l.length):=hid (by unfold p3;rw[K1.out,K2.out];exact Nat.le_trans (cut_le1 _ _) q2.out)
 have q4:Hid ((p4 l).length<=l.length):=hid (by unfold p4;rw[K1.out,K2.out];exact Nat.le_trans (cut_le2 _ _) q2.out)
 have q5:Hid ((p1 l).length<=l.length):=hid (cut_le1 _ _)
 have q6:Hid ((p2 l).length<=l.length):=hid (by unfold p2;rw[K1.out];exact Nat.le_trans (cut_le1 _ _) q1.out)
 obtain⟨G,HG⟩:=nm_ w.heap.size
 obtain⟨w0,HW0⟩:=nm_ (w.alloc (.cells #[.string ⟨#[]⟩,.string ⟨#[]⟩,.int .i64 0,.int .i64 0] 38))
 have HB0:Hid (Below G w w0):=hid (by rw[<-HW0.out,<-HG.out];exact(Below.refl _ w).alloc (Nat.le_refl _) _)
 have HS0:Hid (G<w0.heap.size):=hid (by rw[<-HW0.out,<-HG.out];simp)
 have HR0:Hid (w0.heap[G]? = some (.cells #[.string ⟨#[]⟩,.string ⟨#[]⟩,.int .i64 0,.int .i64 0] 38 (0,0))):=hid (by rw[<-HW0.out,<-HG.out];exact heap_alloc_new w _)
 have HE:Hid (∀ W,Below G w W->Ers W):=fun W hW=>he.below (by rw[HG.out];exact hW)
 have HM:Hid (∀ W,Below G w W->Mx W):=fun W hW=>hm.below (by rw[HG.out];exact hW)
 have C1:Hid (∀ W,Below G w W->Calls Tryz.prog 200 #[.string S,.string ⟨#[32,60]⟩] W fun e w'=>e=.returned (.tuple #[.string A1,.string R1,.bool f1])/\∃ q,w'=W.drewN q):=fun W hW=>by
  rw[<-HS.out,<-H1.out,<-L1.out,<-K1.out,<-F1.out]
  exact X9 l [32,60] W hl (HM.out W hW)
 have C2:Hid (∀ W,Below G w W->Calls Tryz.prog 200 #[.string R1,.string ⟨#[62,32]⟩] W fun e w'=>e=.returned (.tuple #[.string A2,.string R2,.bool f2])/\∃ q,w'=W.drewN q):=fun W hW=>by
  rw[<-L1.out,<-H2.out,<-L2.out,<-K2.out,<-F2.out]
  unfold p2
  rw[K1.out]
  exact X9 r1 [62,32] W (Nat.le_trans q1.out hl) (HM.out W hW)
 have C3:Hid (∀ W,Below G w W->Calls Tryz.prog 200 #[.string R2,.string ⟨#[32]⟩] W fun e w'=>e=.returned (.tuple #[.string A3,.string A4,.bool f3])/\∃ q,w'=W.drewN q):=fun W hW=>by
  rw[<-L2.out,<-H3.out,<-H4.out,<-F3.out]
  unfold p3 p4
  rw[K1.out,K2.out]
  exact X9 r2 [32] W (Nat.le_trans q2.out hl) (HM.out W hW)
 have C4:Hid (∀ W,Below G w W->Calls Tryz.prog 164 #[.string A3,.int .i64 10,.int .i64 64] W fun e w'=>Below W.heap.size W w'/\PA (Lib.parseIntB 64 (p3 l)) e):=fun W hW=>by
  rw[<-H3.out];exact parseInt_short _ (Nat.le_trans q3.out hl) W (HE.out W hW)
 have C5:Hid (∀ W,Below G w W->Calls Tryz.prog 241 #[.string A4] W fun e w'=>Below W.heap.size W w'/\PostZ (p4 l) e):=fun W hW=>by
  rw[<-H4.out];exact zoneOf_any _ (Nat.le_trans q4.out hl) W (HE.out W hW)
 have RET:Hid (∀ (p:Per) W1,Below G w W1->Below w0.heap.size w0 W1->PP l p->W1.there G 0 4->(Below w.heap.size w (W1.setCells G 0 (xq p).toList)/\PostQ l (.returned (.agg (xq p))))):=fun p W1 a b c d=>⟨by rw[HG.out];exact zW (Nat.le_refl _) _ _ _ _ a,p,rfl,c⟩
 have HTH:Hid (∀ W1,Below w0.heap.size w0 W1->W1.there G 0 4):=fun W1 h j hj=>by
  have hh:=(h.block G HS0.out).trans HR0.out
  refine⟨?_,frozen_of_row W1 G (0+j) _ _ hh⟩
  rw[cell_of_row W1 G (0+j) _ _ _ hh]
  have:j=0 ∨ j=1 ∨ j=2 ∨ j=3:=by omega
  rcases this with rfl | rfl | rfl | rfl <;> rfl
 rw[HS.out]
 clear he hm
 go_enter Tryz.func228,Tryz.ntmps228
 go_wp2_with fail
 rw[HG.out,HW0.out]
 refine(C1.out w0 HB0.out).mono ?_
 rintro ev w' ⟨rfl,n1,rfl⟩
 have HB1:Hid (Below G w (w0.drewN n1)):=uq _ _ HB0.out
 have HY1:Hid (Below w0.heap.size w0 (w0.drewN n1)):=⟨rfl,rfl,rfl,Nat.le_refl _,fun _ _=>rfl⟩
 generalize w0.drewN n1=w1 at HB1 HY1 ⊢
 go_wp2_with fail
 refine(C2.out _ HB1.out).mono ?_
 rintro ev w' ⟨rfl,n2,rfl⟩
 have HB2:Hid (Below G w (w1.drewN n2)):=uq _ _ HB1.out
 have HY2:Hid (Below w0.heap.size w0 (w1.drewN n2)):=uq _ _ HY1.out
 generalize w1.drewN n2=w2 at HB2 HY2 ⊢
 go_wp2_with fail
 refine(C3.out _ HB2.out).mono ?_
 rintro ev w' ⟨rfl,n3,rfl⟩
 have HB3:Hid (Below G w (w2.drewN n3)):=uq _ _ HB2.out
 have HY3:Hid (Below w0.heap.size w0 (w2.drewN n3)):=uq _ _ HY2.out
 generalize w2.drewN n3=w3 at HB3 HY3 ⊢
 go_wp2_with fail
 refine(C4.out _ HB3.out).mono ?_
 rintro ev w4 ⟨hb4,x,ev2,rfl,hx⟩
 have HB4:Hid (Below G w w4):=HB3.out.trans (hb4.mono (by have:=HY3.out.size;have:=HS0.out;omega))
 have HY4:Hid (Below w0.heap.size w0 w4):=HY3.out.trans (hb4.mono HY3.out.size)
 have HX:Hid ((ev2=.nilIface/\Lib.parseIntB 64 (p3 l)=.ok x) ∨ ((∃ N,ev2=.iface 327 (.pointer (some ⟨N,0,none⟩)))/\∀ v,Lib.parseIntB 64 (p3 l) ≠ .ok v)):=hx
 clear hb4 hx
 rcases HX.out with ⟨rfl,hok⟩ | ⟨⟨N,rfl⟩,hno⟩
 ·have HOK:Hid (Lib.parseIntB 64 (p3 l)=.ok x):=hok
  clear hok HX
  go_wp2_with fail
  refine(C5.out _ HB4.out).mono ?_
  rintro ev w5 ⟨hb5,z,rfl,hz⟩
  have HB5:Hid (Below G w w5):=HB4.out.trans (hb5.mono (by have:=HY4.out.size;have:=HS0.out;omega))
  have HY5:Hid (Below w0.heap.size w0 w5):=HY4.out.trans (hb5.mono HY4.out.size)
  have HPP:Hid (PP l ⟨p1 l,p2 l,x,z⟩):=⟨q5.out,q6.out,fun v hv=>by
   rw[HOK.out] at hv
   cases hv
   exact⟨rfl,rfl,rfl,hz⟩⟩
  clear hb5 hz
  have HPV:Hid (xq ⟨p1 l,p2 l,x,z⟩=#[.string A1,.string A2,.int .i64 x,.int .i64 z]):=hid (by unfold xq;rw[<-H1.out,<-H2.out])
  have T1:Hid (w5.there G 0 (#[.string A1,.string A2,.int .i64 x,.int .i64 z] : Array Value).size):=HTH.out w5 HY5.out
  have T2:Hid ((Tryz.prog.info? 38).map (·.size)=some (#[.string A1,.string A2,.int .i64 x,.int .i64 z] : Array Value).size):=Tryz.size38
  have T3:Hid ((#[.string A1,.string A2,.int .i64 x,.int .i64 z] : Array Value).all (·.oneCell')=true):=hid (all_oneCell_toArray (fun v hv=>by simp only[List.mem_cons,List.not_mem_nil,or_false] at hv;rcases hv with rfl | rfl | rfl | rfl <;> rfl))
  go_wp2_with (refine wpList_store_mid rfl 38 _ _ rfl G 0 #[.string A1,.string A2,.int .i64 x,.int .i64 z] rfl rfl T1.out T2.out T3.out ?_)
  have hret:=RET.out ⟨p1 l,p2 l,x,z⟩ w5 HB5.out HY5.out HPP.out (HTH.out w5 HY5.out)
  rw[HPV.out] at hret
  refine bodyPost_ret (v:=.agg #[.string A1,.string A2,.int .i64 x,.int .i64 z]) (qW Tryz.results228 _ _ G [.string A1,.string A2,.int .i64 x,.int .i64 z] _ rfl (World.rangeAt_setCells_same w5 G 0 _ T1.out) Tryz.underlying38 rfl Tryz.size38) rfl ?_
  exact hret
 ·have HPP:Hid (PP l ⟨[],[],0,0⟩):=⟨(by simp),(by simp),fun v hv=>absurd hv (hno v)⟩
  clear hno HX
  have T1:Hid (w4.there G 0 (#[.string ⟨#[]⟩,.string ⟨#[]⟩,.int .i64 0,.int .i64 0] : Array Value).size):=HTH.out w4 HY4.out
  have T2:Hid ((Tryz.prog.info? 38).map (·.size)=some (#[.string ⟨#[]⟩,.string ⟨#[]⟩,.int .i64 0,.int .i64 0] : Array Value).size):=Tryz.size38
  have T3:Hid ((#[.string ⟨#[]⟩,.string ⟨#[]⟩,.int .i64 0,.int .i64 0] : Array Value).all (·.oneCell')=true):=hid (all_oneCell_toArray (fun v hv=>by simp only[List.mem_cons,List.not_mem_nil,or_false] at hv;rcases hv with rfl | rfl | rfl | rfl <;> rfl))
  go_wp2_with (refine wpList_store_mid rfl 38 _ _ rfl G 0 #[.string ⟨#[]⟩,.string ⟨#[]⟩,.int .i64 0,.int .i64 0] rfl rfl T1.out T2.out T3.out ?_)
  have hret:=RET.out ⟨[],[],0,0⟩ w4 HB4.out HY4.out HPP.out (HTH.out w4 HY4.out)
  refine bodyPost_ret (v:=.agg #[.string ⟨#[]⟩,.string ⟨#[]⟩,.int .i64 0,.int .i64 0]) (qW Tryz.results228 _ _ G [.string ⟨#[]⟩,.string ⟨#[]⟩,.int .i64 0,.int .i64 0] _ rfl (World.rangeAt_setCells_same w4 G 0 _ T1.out) Tryz.underlying38 rfl Tryz.size38) rfl ?_
  exact hret
structure L2 (b:Nat) (x y:ByteArray) (W:World):Prop where
 lt:b<W.heap.size
 c0:W.cell? ⟨b,0,none⟩=some (.string x)
 c1:W.cell? ⟨b,1,none⟩=some (.string y)
theorem L2.below {b:Nat} {x y:ByteArray} {W W':World} (h:L2 b x y W) (hb:Below W.heap.size W W'):L2 b x y W' :=
 ⟨Nat.lt_of_lt_of_le h.lt hb.size,(hb.cell (p:=⟨b,0,none⟩) h.lt).trans h.c0,(hb.cell (p:=⟨b,1,none⟩) h.lt).trans h.c1⟩
def yW (zs:List Int):List UInt8:=(Hx.hexOf zs).map fun n=>UInt8.ofNat n.toNat
theorem x7 (zs:List Int):(yW zs).length=2*zs.length:=by simp[yW,Hx.hexOf_len]
theorem qw {P:Program} {fn:Func} {p q:Tmp} {ty:TypeId} (h:fn.results=#[.cell p ty,.tmp q]) (tmps:Array Value) (w:World) (g:Nat) (cs:List Value) (d:TypeDesc)
  (hp:tmps.getD p undef=.pointer (some ⟨g,0,none⟩)) (hc:w.rangeAt g 0 cs) (hu:P.underlying ty=some d) (hd:d.isRow=true) (hi:(P.info? ty).map (·.size)=some cs.length) :
  (results fn tmps).run P w=.ok (.tuple #[.agg cs.toArray,tmps.getD q undef]) w:=by
 have hp':tmps[p]?.getD undef=.pointer (some ⟨g,0,none⟩):=by simpa using hp
 simp[results,h,hp',asAddr,run_loadVar_mid w g 0 ty cs d hc hu hd hi]
theorem Tryz.size74:(Tryz.prog.info? 74).map (·.size)=some 4:=by kernel_rfl
theorem Sl.from {w:World} {a:Option Addr} {cap:Nat} {l:List Int} (h:Sl w a cap l) (j:Nat) (hj:j<=l.length) (h0:0<l.length):Sl w (if cap=j then a else a.map (fun x=>x.add j)) (cap-j) (l.drop j):=by
 obtain⟨b,off,rfl,e2,e3⟩:=h.at_ h0
 have hc:=h.capl
 refine⟨by rw[List.length_drop];omega,fun h1=>?_,fun e=>by split at e <;> cases e⟩
 rw[List.length_drop] at h1
 rw[if_neg (by omega)]
 refine⟨b,off+j,by rw[Option.map_some,yV],e2,fun i hi=>?_⟩
 rw[List.length_drop] at hi
 rw[Nat.add_assoc,e3 (j+i) (by omega)]
 simp[List.getD_eq_getElem?_getD,List.getElem?_drop]
section
variable {w w0 : World} {ops : Array Oper} {rest : List Oper} {o : Oper} {a : Act} {Q : Exit → Act → World → Prop}
end
theorem Sl.grown {w w':World} {a:Option Addr} {cap:Nat} {l:List Int} {r:Option Nat} (h:Sl w a cap l) (hg:w.grownBy w' r) (hne:∀ b off,a=some ⟨b,off,none⟩->some b ≠ r):Sl w' a cap l :=
 ⟨h.capl,fun h0=>by
  obtain⟨b,off,e1,e2,e3⟩:=h.at_ h0
  exact⟨b,off,e1,Nat.lt_of_lt_of_le e2 hg.size,fun i hi=>(World.cell?_of_block (a:=⟨b,off+i,none⟩) (hg.block b e2 (hne b off e1))).trans (e3 i hi)⟩,h.nil⟩
end Go.Proofs.YtgliaiemkfopeaaGreatDoor
namespace Go.Proofs.YtgliaiemkfopeaaGreatDoor
theorem cut_at (a b sep:List UInt8) (h1:Lib.occAt (a++(sep++b)) sep a.length=true) (h2:∀ j,j<a.length->Lib.occAt (a++(sep++b)) sep j=false):Lib.cut (a++(sep++b)) sep=(a,b,true):=by
 have hi:Lib.index (a++(sep++b)) sep=(a.length:Nat):=Lib.index_first (by simp) h1 h2
 unfold Lib.cut
 rw[hi,if_pos (by omega)]
 simp
theorem occ_here (a b sep:List UInt8):Lib.occAt (a++(sep++b)) sep a.length=true:=by
 simp[Lib.occAt]
theorem occ_not (s sep:List UInt8) (j k:Nat) (c:UInt8) (hc:sep[k]? = some c) (hn:s[j+k]? ≠ some c):Lib.occAt s sep j=false:=by
 cases h:Lib.occAt s sep j with
 | false=>rfl
 | true =>
  refine absurd ?_ hn
  unfold Lib.occAt at h
  obtain⟨t,ht⟩:=List.isPrefixOf_iff_prefix.1 h
  obtain⟨hk,_⟩:=List.getElem?_eq_some_iff.1 hc
  rw[<-List.getElem?_drop,<-ht,List.getElem?_append_left hk]
  exact hc
theorem vQ (a b:List UInt8) (c:UInt8) (h:c ∉ a):Lib.cut (a++c :: b) [c]=(a,b,true):=by
 refine cut_at a b [c] (occ_here a b [c]) (fun j hj=>occ_not _ _ j 0 c rfl ?_)
 rw[Nat.add_zero,List.getElem?_append_left hj]
 exact fun e=>h (List.mem_of_getElem? e)
theorem cut_two (a b:List UInt8) (c d:UInt8) (hcd:c ≠ d) (h:d ∉ a):Lib.cut (a++c :: d :: b) [c,d]=(a,b,true):=by
 refine cut_at a b [c,d] (occ_here a b [c,d]) (fun j hj=>occ_not _ _ j 1 d rfl ?_)
 rcases Nat.lt_or_ge (j+1) a.length with h1 | h1
 ·rw[List.getElem?_append_left h1]
  exact fun e=>h (List.mem_of_getElem? e)
 ·rw[List.getElem?_append_right h1,show j+1-a.length=0 from by omega]
  simpa using hcd
theorem cut_two' (a b:List UInt8) (c d:UInt8) (h:c ∉ a):Lib.cut (a++c :: d :: b) [c,d]=(a,b,true):=by
 refine cut_at a b [c,d] (occ_here a b [c,d]) (fun j hj=>occ_not _ _ j 0 c rfl ?_)
 rw[Nat.add_zero,List.getElem?_append_left hj]
 exact fun e=>h (List.mem_of_getElem? e)
theorem per_cut (q:Per) (hq:okP q):p1 (x8 q)=q.name/\p2 (x8 q)=q.mail/\p3 (x8 q)=Lib.decDigits q.time.toNat/\p4 (x8 q)=xk q.zone:=by
 obtain⟨⟨_,nb,_⟩,⟨_,mb,_⟩,_,_,_⟩:=hq
 have k1:Lib.cut (x8 q) [32,60]=(q.name,q.mail++62 :: 32 :: (Lib.decDigits q.time.toNat++32 :: xk q.zone),true):=cut_two _ _ _ _ (by decide) (fun h=>(nb 60 h).1 rfl)
 have k2:Lib.cut (q.mail++62 :: 32 :: (Lib.decDigits q.time.toNat++32 :: xk q.zone)) [62,32]=(q.mail,Lib.decDigits q.time.toNat++32 :: xk q.zone,true):=cut_two' _ _ _ _ (fun h=>(mb 62 h).2.1 rfl)
 have k3:Lib.cut (Lib.decDigits q.time.toNat++32 :: xk q.zone) [32]=(Lib.decDigits q.time.toNat,xk q.zone,true):=vQ _ _ _ (fun h=>by
  have h1:=((dig_val q.time.toNat).2.1 32 h).1
  have h2:(32:UInt8).toNat=32:=rfl
  omega)
 unfold p1 p2 p3 p4
 rw[k1]
 simp only
 rw[k2]
 simp only
 rw[k3]
 exact⟨trivial,trivial,rfl,rfl⟩
def valF (acc:Nat) (l:List UInt8):Nat:=l.foldl (fun n x=>n*10+(x.toNat-48)) acc
theorem room_step {acc d k E:Nat} (hd:d<=9) (h:(acc+1)*10 ^ (k+1)<=E):(acc*10+d+1)*10 ^ k<=E/\acc*10+d<E/\acc*10<E:=by
 rw[Nat.pow_succ] at h
 have h0:0<10 ^ k:=Nat.pow_pos (by decide)
 have h1:(acc*10+d+1)*10 ^ k<=(acc+1)*(10 ^ k*10):=by
  rw[Nat.mul_comm (10 ^ k) 10,<-Nat.mul_assoc]
  exact Nat.mul_le_mul_right _ (by omega)
 have h2:acc*10+d+1<=(acc*10+d+1)*10 ^ k:=Nat.le_mul_of_pos_right _ h0
 omega
theorem parseM (M:Nat) (hM:1000000000000000000<=M):∀ (l:List UInt8) (acc:Nat),(∀ x ∈ l,digS x)->(acc+1)*10 ^ l.length<=1000000000000000000->Lib.parseUintM M acc l=.ok (valF acc l)
 | [],acc,_,_=>rfl
 | c :: r,acc,hd,hb=>by
  have hc:=hd c (by simp)
  unfold digS at hc
  obtain⟨b1,b2,b3⟩:=room_step (d:=c.toNat-48) (by omega) hb
  rw[Lib.parseUintM,if_pos hc,if_neg (by omega),if_neg (by omega)]
  exact parseM M hM r _ (fun x hx=>hd x (by simp[hx])) b1
theorem parse10:∀ (l:List UInt8) (acc:Nat),(∀ x ∈ l,digS x)->(acc+1)*10 ^ l.length<=1000000000000000000->Lib.parseUint10 acc l=.ok (valF acc l)
 | [],acc,_,_=>rfl
 | c :: r,acc,hd,hb=>by
  have hc:=hd c (by simp)
  unfold digS at hc
  obtain⟨b1,b2,b3⟩:=room_step (d:=c.toNat-48) (by omega) hb
  rw[Lib.parseUint10,if_pos hc,if_neg (by omega),if_neg (by omega)]
  exact parse10 r _ (fun x hx=>hd x (by simp[hx])) b1
theorem time_back (t:Nat) (ht:t<=1099511627776):Lib.parseIntB 64 (Lib.decDigits t)=.ok (t:Int):=by
 obtain⟨d1,d2,d3,d4⟩:=dig_val t
 have hl:=uV t ht
 have hp:Lib.parseUintM (2 ^ 64-1) 0 (Lib.decDigits t)=.ok t:=by
  have h:=parseM (2 ^ 64-1) (by decide) (Lib.decDigits t) 0 d2 (by
   have:10 ^ (Lib.decDigits t).length<=10 ^ 13:=Nat.pow_le_pow_right (by decide) hl
   omega)
  rw[h]
  exact congrArg Lib.NumEnd.ok d1
 cases hd:Lib.decDigits t with
 | nil=>rw[hd] at d3;simp at d3
 | cons c r =>
  have hc:digS c:=d2 c (by rw[hd];simp)
  unfold digS at hc
  rw[hd] at hp
  unfold Lib.parseIntB Lib.parseUintB
  simp only
  rw[if_neg (show ¬ (c.toNat=43 ∨ c.toNat=45) by omega),if_neg (show ¬ (c :: r=[]) by simp),hp]
  simp only
  rw[if_neg (by omega),if_neg (by omega),if_neg (by omega)]
theorem zone_back (z:Int) (h1 : -840<=z) (h2:z<=840) (z':Int) (h:PZ (xk z) z'):z'=z:=by
 obtain⟨hh,eh⟩:∃ x,x=z.natAbs / 60:=⟨_,rfl⟩
 obtain⟨mm,em⟩:∃ x,x=z.natAbs % 60:=⟨_,rfl⟩
 have bh:hh<100:=by omega
 have bm:mm<100:=by omega
 have k1:=xK (hh / 10) (by omega)
 have k2:=xK (hh % 10) (by omega)
 have k3:=xK (mm / 10) (by omega)
 have k4:=xK (mm % 10) (by omega)
 have hp:Lib.parseUint10 0 (two hh++two mm)=.ok (hh*100+mm):=by
  rw[parse10 (two hh++two mm) 0 (by
   intro x hx
   simp only[two,List.cons_append,List.nil_append,List.mem_cons,List.not_mem_nil,or_false] at hx
   unfold digS
   rcases hx with rfl | rfl | rfl | rfl <;> omega) (by simp[two])]
  refine congrArg Lib.NumEnd.ok ?_
  simp only[valF,two,List.cons_append,List.nil_append,List.foldl_cons,List.foldl_nil,k1,k2,k3,k4]
  omega
 have hne:¬ (two hh++two mm=[]):=by simp[two]
 by_cases hz:z<0
 ·have hv:Lib.atoiAll (xk z)=.ok (-((hh*100+mm:Nat):Int)):=by
   unfold xk
   rw[if_pos hz,<-eh,<-em]
   unfold Lib.atoiAll Lib.parseMag
   simp only
   rw[if_pos (show ((45:UInt8).toNat=43 ∨ (45:UInt8).toNat=45) by decide),if_neg hne,hp]
   simp only
   rw[if_neg (by omega),if_neg (by omega),if_pos (by decide)]
  have h3:=h _ hv (by omega) (by omega)
  rw[h3,Int.neg_tdiv,Int.neg_tmod,Int.tdiv_eq_ediv_of_nonneg (by omega),Int.tmod_eq_emod_of_nonneg (by omega)]
  omega
 ·have hv:Lib.atoiAll (xk z)=.ok ((hh*100+mm:Nat):Int):=by
   unfold xk
   rw[if_neg hz,<-eh,<-em]
   unfold Lib.atoiAll Lib.parseMag
   simp only
   rw[if_pos (show ((43:UInt8).toNat=43 ∨ (43:UInt8).toNat=45) by decide),if_neg hne,hp]
   simp only
   rw[if_neg (by omega),if_neg (by omega),if_neg (by decide)]
  have h3:=h _ hv (by omega) (by omega)
  rw[h3,Int.tdiv_eq_ediv_of_nonneg (by omega),Int.tmod_eq_emod_of_nonneg (by omega)]
  omega
theorem pp_back (q:Per) (hq:okP q) (p:Per) (h:PP (x8 q) p):p=q:=by
 obtain⟨c1,c2,c3,c4⟩:=per_cut q hq
 have b:=hq.2.2
 obtain⟨_,_,h3⟩:=h
 rw[c1,c2,c3,c4] at h3
 obtain⟨e1,e2,e3,e4⟩:=h3 _ (time_back q.time.toNat (by omega))
 have e5:=zone_back q.zone b.2.1 b.2.2 _ e4
 obtain⟨a1,a2,a3,a4⟩:=p
 obtain⟨b1,b2,b3,b4⟩:=q
 simp only at e1 e2 e3 e5 b
 subst e1
 subst e2
 subst e5
 congr 1
 omega
end Go.Proofs.YtgliaiemkfopeaaGreatDoor
namespace Go.Proofs.YtgliaiemkfopeaaGreatDoor.Hx
open Go.RowKit
theorem str_sgn (l:List Int) (k:Nat) (h:k<l.length) (hb:∀ n ∈ l,0<=n/\n<256):sgn (strOfNums l) k=l.getD k 0:=by
 have hm:=hb _ (List.getElem_mem h)
 unfold sgn strOfNums
 simp[h]
 omega
theorem dig_bd (n:Int) (h:0<=n/\n<16):0<=dig n/\dig n<256:=by unfold dig;split <;> omega
theorem hv_dig (n:Int) (h:0<=n/\n<16):hv (dig n)=n:=by
 unfold hv dig
 by_cases a:n<10
 ·rw[if_pos a,if_pos (by omega)];omega
 ·rw[if_neg a,if_neg (by omega),if_pos (by omega)];omega
theorem hexOf_bd (zs:List Int) (hz:∀ n ∈ zs,0<=n/\n<256):∀ n ∈ hexOf zs,0<=n/\n<256:=by
 intro n hn
 simp only[hexOf,List.mem_flatMap] at hn
 obtain⟨x,hx,hn⟩:=hn
 have:=hz x hx
 simp at hn
 rcases hn with rfl | rfl
 ·exact dig_bd _ (by omega)
 ·exact dig_bd _ (by omega)
theorem hexOf_at:∀ (zs:List Int) (k:Nat),k<zs.length->(hexOf zs).getD (2*k) 0=dig (zs.getD k 0 / 16)/\(hexOf zs).getD (2*k+1) 0=dig (zs.getD k 0 % 16)
 | x :: r,0,_=>by simp[hexOf]
 | x :: r,k+1,h=>by
  have:=hexOf_at r k (by simpa using h)
  have e:hexOf (x :: r)=dig (x / 16) :: dig (x % 16) :: hexOf r:=by simp[hexOf]
  rw[e,show 2*(k+1)=2*k+1+1 from by omega,show 2*k+1+1+1=(2*k+1)+1+1 from rfl]
  simpa using this
theorem hex_sgn (zs:List Int) (hl:zs.length=20) (hz:∀ n ∈ zs,0<=n/\n<256) (k:Nat) (hk:k<40):hv (sgn (strOfNums (hexOf zs)) k)=if k % 2=0 then zs.getD (k / 2) 0 / 16 else zs.getD (k / 2) 0 % 16:=by
 rw[str_sgn _ k (by rw[hexOf_len];omega) (hexOf_bd zs hz)]
 have hx:=hz (zs.getD (k / 2) 0) (by rw[List.getD_eq_getElem?_getD,List.getElem?_eq_getElem (by omega)];exact List.getElem_mem _)
 obtain⟨h0,h1⟩:=hexOf_at zs (k / 2) (by omega)
 by_cases h2:k % 2=0
 ·rw[if_pos h2,show k=2*(k / 2) from by omega,h0,show 2*(k / 2) / 2=k / 2 from by omega]
  exact hv_dig _ (by omega)
 ·rw[if_neg h2]
  have e:(hexOf zs).getD k 0=(hexOf zs).getD (2*(k / 2)+1) 0:=by congr 1;omega
  rw[e,h1]
  exact hv_dig _ (by omega)
theorem hex_good (zs:List Int) (hl:zs.length=20) (hz:∀ n ∈ zs,0<=n/\n<256):good (strOfNums (hexOf zs)):=fun k hk=>by
 have hx:=hz (zs.getD (k / 2) 0) (by rw[List.getD_eq_getElem?_getD,List.getElem?_eq_getElem (by omega)];exact List.getElem_mem _)
 rw[hex_sgn zs hl hz k hk]
 split <;> omega
theorem getD_set (l:List Int) (i j:Nat) (v:Int) (hi:i<l.length):(l.set i v).getD j 0=if i=j then v else l.getD j 0:=by
 rw[List.getD_eq_getElem?_getD,List.getElem?_set]
 by_cases h:i=j
 ·subst h;simp[hi]
 ·simp[h]
theorem hex_back_at (zs:List Int) (hl:zs.length=20) (hz:∀ n ∈ zs,0<=n/\n<256):∀ k,k<=40->∀ j,j<20->(idAt (strOfNums (hexOf zs)) k).getD j 0=if 2*j+1<k then zs.getD j 0 else if 2*j<k then zs.getD j 0 / 16 else 0
 | 0,_,j,hj=>by
  rw[if_neg (by omega),if_neg (by omega)]
  simp only[idAt,zeros,List.getD_eq_getElem?_getD,List.getElem?_replicate];split <;> rfl
 | k+1,hk,j,hj=>by
  have ih:=hex_back_at zs hl hz k (by omega)
  have hx:=hz (zs.getD j 0) (by rw[List.getD_eq_getElem?_getD,List.getElem?_eq_getElem (by omega)];exact List.getElem_mem _)
  rw[idAt,getD_set _ _ _ _ (by rw[idAt_len];omega),hex_sgn zs hl hz k (by omega)]
  by_cases e:k / 2=j
  ·rw[if_pos e,ih (k / 2) (by omega),e]
   by_cases h2:k % 2=0
   ·rw[if_pos h2,if_neg (by omega),if_neg (by omega),if_neg (by omega),if_pos (by omega)];omega
   ·rw[if_neg h2,if_neg (by omega),if_pos (by omega),if_pos (by omega)];omega
  ·rw[if_neg e,ih j hj]
   by_cases h:2*j+1<k
   ·rw[if_pos h,if_pos (by omega)]
   ·rw[if_neg h]
    by_cases h':2*j<k
    ·omega
    ·rw[if_neg h',if_neg (show ¬ 2*j+1<k+1 by omega),if_neg (show ¬ 2*j<k+1 by omega)]
theorem hex_back (zs:List Int) (hl:zs.length=20) (hz:∀ n ∈ zs,0<=n/\n<256):idAt (strOfNums (hexOf zs)) 40=zs:=by
 apply List.ext_getElem (by rw[idAt_len,hl])
 intro j h1 h2
 have:=hex_back_at zs hl hz 40 (Nat.le_refl _) j (by omega)
 rw[if_pos (by omega)] at this
 simpa [h1,h2] using this
end Go.Proofs.YtgliaiemkfopeaaGreatDoor.Hx
namespace Go.Proofs.YtgliaiemkfopeaaGreatDoor
theorem pid_back (id fr:List Int) (hl:id.length=20) (hz:∀ n ∈ id,0<=n/\n<256) (h:PId (yW id) fr):fr=id:=by
 have e:(⟨(yW id).toArray⟩:ByteArray)=strOfNums (Hx.hexOf id):=rfl
 have h2:=h.2.2 ⟨by rw[x7,hl],by rw[e];exact Hx.hex_good id hl hz⟩
 rw[h2,e]
 exact Hx.hex_back id hl hz
end Go.Proofs.YtgliaiemkfopeaaGreatDoor
namespace Go.Proofs.YtgliaiemkfopeaaGreatDoor
open Go.RowKit
theorem Tryz.results21:Tryz.f21.results=#[.cell 2 74]:=by kernel_rfl
theorem person_any (p:Per) (w:World):Calls Tryz.prog 21 #[.agg (xq p)] w fun e w'=>e=.returned (.agg (xq p))/\Below w.heap.size w w':=by
 obtain⟨N,HN⟩:=nm_ (⟨p.name.toArray⟩:ByteArray)
 obtain⟨M,HM⟩:=nm_ (⟨p.mail.toArray⟩:ByteArray)
 obtain⟨t,HT⟩:=nm_ p.time
 obtain⟨z,HZ⟩:=nm_ p.zone
 have HPV:Hid (xq p=#[.string N,.string M,.int .i64 t,.int .i64 z]):=hid (by unfold xq;rw[HN.out,HM.out,HT.out,HZ.out])
 have HB:Hid (∀ o1 o2,Below w.heap.size w ((w.alloc o1).alloc o2)):=fun o1 o2=>((Below.refl _ w).alloc (Nat.le_refl _) _).alloc (by simp) _
 rw[HPV.out]
 go_enter Tryz.func21,Tryz.ntmps21
 go_wp2
 have hr:World.rangeAt ((w.alloc (.cells #[.string N,.string M,.int .i64 t,.int .i64 z] 38)).alloc (.cells #[.string N,.string M,.int .i64 t,.int .i64 z] 74)) (w.heap.size+1) 0 [.string N,.string M,.int .i64 t,.int .i64 z]:=by
  have:=heap_alloc_new (w.alloc (.cells #[.string N,.string M,.int .i64 t,.int .i64 z] 38)) (.cells #[.string N,.string M,.int .i64 t,.int .i64 z] 74)
  simp only[World.size_alloc] at this
  exact zy this
 exact bodyPost_ret (v:=.agg #[.string N,.string M,.int .i64 t,.int .i64 z]) (qW Tryz.results21 _ _ (w.heap.size+1) _ _ rfl hr Tryz.underlying74 rfl Tryz.size74) rfl ⟨rfl,HB.out _ _⟩
end Go.Proofs.YtgliaiemkfopeaaGreatDoor
namespace Go.Proofs.YtgliaiemkfopeaaGreatDoor.K
open Go.RowKit
theorem takeY {P:Program} {md:Region.Mode} {Q:Exit->Act->World->Prop} {S:World->Prop} {l:List Oper} {i:Nat} {oi:Oper} {v:Value} {fuel:Nat} {listed:Array Bool} {a:Act} {w:World} (hS:S w)
  (hy:∀ w',S w'->(execOp a.eval oi).run P w'=.ok (.value v) w')
  (h:wpAnyH P md l.toArray Q S fuel (listed.setIfInBounds i true) (a.put oi.dst v) w) (hi:l[i]? = some oi:=by rfl)
  (hs:Region.noSelect l.toArray=true:=by kernel_rfl) (hf:Region.free md l.toArray listed i=true:=by kernel_rfl) (hr:(Region.ready md l.toArray listed).contains i=true:=by kernel_rfl) (hQ:∀ c a w,Q (.panic c) (a.put oi.dst v) w->Q (.panic c) a w:=by exact fun _ _ _ h=>h) (hg:Region.wanted oi (yielded l.toArray a.tmps)=true:=by rfl) :
  wpAnyH P md l.toArray Q S (fuel+1) listed a w:=kV hi hs hf hr hQ (Or.inl ⟨hg,hy⟩) hS h
theorem qq {P:Program} {md:Region.Mode} {Q:Exit->Act->World->Prop} {S:World->Prop} {l:List Oper} {i:Nat} {oi:Oper} {v:Value} {fuel:Nat} {listed:Array Bool} {a:Act} {w:World} (hS:S w)
  (hy:∀ w',S w'->(execOp a.eval oi).run P w'=.ok (.value v) w')
  (h:wpAnyH P md l.toArray Q S fuel (listed.setIfInBounds i true) (a.put oi.dst v) w) (hx:listed.toList.findIdx? (fun b => !b)=some i:=by rfl) (hi:l[i]? = some oi:=by rfl)
  (hs:Region.noSelect l.toArray=true:=by kernel_rfl) (hf:Region.free md l.toArray listed i=true:=by kernel_rfl) (hr:(Region.ready md l.toArray listed).contains i=true:=by kernel_rfl) (hQ:∀ c a w,Q (.panic c) (a.put oi.dst v) w->Q (.panic c) a w:=by exact fun _ _ _ h=>h) (hg:Region.wanted oi (yielded l.toArray a.tmps)=true:=by rfl) :
  wpAnyH P md l.toArray Q S (fuel+1) listed a w:=kV hi hs hf hr hQ (Or.inl ⟨hg,hy⟩) hS h
theorem jy {P:Program} {ops:Array Oper} {o:Oper} {a:Act} {w w':World} {K:Act->World->Prop} {Q:Exit->Act->World->Prop} {E:Prop} (hg:o.guard=none) (v:Value) (hr:(execOp a.eval o).run P w=.ok (.value v) w') (h:K (a.put o.dst v) w') :
  if Region.wanted o (yielded ops a.tmps)=true then Oper.wp P o a w K Q else E:=by
 have hw:Region.wanted o (yielded ops a.tmps)=true:=by simp[Region.wanted,hg]
 rw[if_pos hw]
 unfold Oper.wp
 rw[hr]
 exact h
end Go.Proofs.YtgliaiemkfopeaaGreatDoor.K
