import Derived.Test.YticgindfipobiaaGreatDoorMn25
import Derived.Test.YticgindfipobiaaGreatDoorMn22
import Derived.Test.YticgindfipobiaaGreatDoorMn20
import Derived.StillTail
import Derived.Test.YticgindfipobiaaGreatDoorMn23
set_option linter.unusedSimpArgs false
set_option linter.unusedVariables false
set_option maxRecDepth 20000
set_option maxHeartbeats 4000000
namespace Go.Proofs.YticgindfipobiaaGreatDoor.Hx
open Go.RowKit
theorem str_sgn (l:List Int) (k:Nat) (h:k<l.length) (hb:∀ n ∈ l,0<=n/\n<256):sgn (strOfNums l) k=l.getD k 0:=by
 have hm:=hb _ (List.getElem_mem h)
 unfold sgn strOfNums
 simp[h]
 omega
theorem dig_bd (n:Int) (h:0<=n/\n<16):0<=dig n/\dig n<256:=by unfold dig;split <;> omega
theorem hv_dig (n:Int) (h:0<=n/\n<16):hv (dig n)=n:=by
 unfold hv dig
 by_cases a:n<10
 ·rw[if_pos a,if_pos (by omega)];omega
 ·rw[if_neg a,if_neg (by omega),if_pos (by omega)];omega
theorem hexOf_bd (zs:List Int) (hz:∀ n ∈ zs,0<=n/\n<256):∀ n ∈ hexOf zs,0<=n/\n<256:=by
 intro n hn
 simp only[hexOf,List.mem_flatMap] at hn
 obtain⟨x,hx,hn⟩:=hn
 have:=hz x hx
 simp at hn
 rcases hn with rfl | rfl
 ·exact dig_bd _ (by omega)
 ·exact dig_bd _ (by omega)
theorem hexOf_at:∀ (zs:List Int) (k:Nat),k<zs.length->(hexOf zs).getD (2*k) 0=dig (zs.getD k 0 / 16)/\(hexOf zs).getD (2*k+1) 0=dig (zs.getD k 0 % 16)
 | x :: r,0,_=>by simp[hexOf]
 | x :: r,k+1,h=>by
  have:=hexOf_at r k (by simpa using h)
  have e:hexOf (x :: r)=dig (x / 16) :: dig (x % 16) :: hexOf r:=by simp[hexOf]
  rw[e,show 2*(k+1)=2*k+1+1 from by omega,show 2*k+1+1+1=(2*k+1)+1+1 from rfl]
  simpa using this
theorem hex_sgn (zs:List Int) (hl:zs.length=20) (hz:∀ n ∈ zs,0<=n/\n<256) (k:Nat) (hk:k<40):hv (sgn (strOfNums (hexOf zs)) k)=if k % 2=0 then zs.getD (k / 2) 0 / 16 else zs.getD (k / 2) 0 % 16:=by
 rw[str_sgn _ k (by rw[hexOf_len];omega) (hexOf_bd zs hz)]
 have hx:=hz (zs.getD (k / 2) 0) (by rw[List.getD_eq_getElem?_getD,List.getElem?_eq_getElem (by omega)];exact List.getElem_mem _)
 obtain⟨h0,h1⟩:=hexOf_at zs (k / 2) (by omega)
 by_cases h2:k % 2=0
 ·rw[if_pos h2,show k=2*(k / 2) from by omega,h0,show 2*(k / 2) / 2=k / 2 from by omega]
  exact hv_dig _ (by omega)
 ·rw[if_neg h2]
  have e:(hexOf zs).getD k 0=(hexOf zs).getD (2*(k / 2)+1) 0:=by congr 1;omega
  rw[e,h1]
  exact hv_dig _ (by omega)
theorem hex_good (zs:List Int) (hl:zs.length=20) (hz:∀ n ∈ zs,0<=n/\n<256):good (strOfNums (hexOf zs)):=fun k hk=>by
 have hx:=hz (zs.getD (k / 2) 0) (by rw[List.getD_eq_getElem?_getD,List.getElem?_eq_getElem (by omega)];exact List.getElem_mem _)
 rw[hex_sgn zs hl hz k hk]
 split <;> omega
theorem getD_set (l:List Int) (i j:Nat) (v:Int) (hi:i<l.length):(l.set i v).getD j 0=if i=j then v else l.getD j 0:=by
 rw[List.getD_eq_getElem?_getD,List.getElem?_set]
 by_cases h:i=j
 ·subst h;simp[hi]
 ·simp[h]
theorem hex_back_at (zs:List Int) (hl:zs.length=20) (hz:∀ n ∈ zs,0<=n/\n<256):∀ k,k<=40->∀ j,j<20->(idAt (strOfNums (hexOf zs)) k).getD j 0=if 2*j+1<k then zs.getD j 0 else if 2*j<k then zs.getD j 0 / 16 else 0
 | 0,_,j,hj=>by
  rw[if_neg (by omega),if_neg (by omega)]
  simp only[idAt,zeros,List.getD_eq_getElem?_getD,List.getElem?_replicate];split <;> rfl
 | k+1,hk,j,hj=>by
  have ih:=hex_back_at zs hl hz k (by omega)
  have hx:=hz (zs.getD j 0) (by rw[List.getD_eq_getElem?_getD,List.getElem?_eq_getElem (by omega)];exact List.getElem_mem _)
  rw[idAt,getD_set _ _ _ _ (by rw[idAt_len];omega),hex_sgn zs hl hz k (by omega)]
  by_cases e:k / 2=j
  ·rw[if_pos e,ih (k / 2) (by omega),e]
   by_cases h2:k % 2=0
   ·rw[if_pos h2,if_neg (by omega),if_neg (by omega),if_neg (by omega),if_pos (by omega)];omega
   ·rw[if_neg h2,if_neg (by omega),if_pos (by omega),if_pos (by omega)];omega
  ·rw[if_neg e,ih j hj]
   by_cases h:2*j+1<k
   ·rw[if_pos h,if_pos (by omega)]
   ·rw[if_neg h]
    by_cases h':2*j<k
    ·omega
    ·rw[if_neg h',if_neg (show ¬ 2*j+1<k+1 by omega),if_neg (show ¬ 2*j<k+1 by omega)]
theorem hex_back (zs:List Int) (hl:zs.length=20) (hz:∀ n ∈ zs,0<=n/\n<256):idAt (strOfNums (hexOf zs)) 40=zs:=by
 apply List.ext_getElem (by rw[idAt_len,hl])
 intro j h1 h2
 have:=hex_back_at zs hl hz 40 (Nat.le_refl _) j (by omega)
 rw[if_pos (by omega)] at this
 simpa [h1,h2] using this
end Go.Proofs.YticgindfipobiaaGreatDoor.Hx
namespace Go.Proofs.YticgindfipobiaaGreatDoor
theorem pid_back (id fr:List Int) (hl:id.length=20) (hz:∀ n ∈ id,0<=n/\n<256) (h:PId (xw id) fr):fr=id:=by
 have e:(⟨(xw id).toArray⟩:ByteArray)=strOfNums (Hx.hexOf id):=rfl
 have h2:=h.2.2 ⟨by rw[uq,hl],by rw[e];exact Hx.hex_good id hl hz⟩
 rw[h2,e]
 exact Hx.hex_back id hl hz
theorem kO_back (k:Int) (hk:¬ (kN k).toList.isEmpty=true) (j:Nat) (h:kO ⟨(kN k).data.toList.toArray⟩ j):(j:Int)=k:=by
 have hc:k=1 ∨ k=2 ∨ k=3 ∨ k=4:=by
  unfold kN at hk
  by_cases h1:k=1
  ·exact .inl h1
  by_cases h2:k=2
  ·exact .inr (.inl h2)
  by_cases h3:k=3
  ·exact .inr (.inr (.inl h3))
  by_cases h4:k=4
  ·exact .inr (.inr (.inr h4))
  rw[if_neg (by simpa using h1),if_neg (by simpa using h2),if_neg (by simpa using h3),if_neg (by simpa using h4)] at hk
  rw[Lib.toList_data] at hk
  exact absurd rfl hk
 have e:(⟨(kN k).data.toList.toArray⟩:ByteArray)=kN k:=rfl
 rw[e] at h
 rcases h with ⟨h1,h2,h3⟩ | ⟨h1,h2⟩
 ·have hj:j=1 ∨ j=2 ∨ j=3 ∨ j=4:=by omega
  rw[Lib.toList_data,Lib.toList_data] at h3
  rcases hc with rfl | rfl | rfl | rfl <;> rcases hj with rfl | rfl | rfl | rfl <;> first | rfl | (exact absurd h3 (by decide))
 ·rcases hc with rfl | rfl | rfl | rfl
  ·have h3:=h2 1 (by omega) (by omega)
   rw[Lib.toList_data,Lib.toList_data] at h3
   exact absurd h3 (by decide)
  ·have h3:=h2 2 (by omega) (by omega)
   rw[Lib.toList_data,Lib.toList_data] at h3
   exact absurd h3 (by decide)
  ·have h3:=h2 3 (by omega) (by omega)
   rw[Lib.toList_data,Lib.toList_data] at h3
   exact absurd h3 (by decide)
  ·have h3:=h2 4 (by omega) (by omega)
   rw[Lib.toList_data,Lib.toList_data] at h3
   exact absurd h3 (by decide)
theorem YQ (id:List Int) (hz:∀ n ∈ id,0<=n/\n<256):(10:UInt8) ∉ xw id:=by
 intro h
 obtain⟨n,hn,e⟩:=List.mem_map.1 h
 unfold Hx.hexOf at hn
 obtain⟨x,hx,hn⟩:=List.mem_flatMap.1 hn
 have hb:=hz x hx
 have hd:∀ y:Int,0<=y->y<16->48<=Hx.dig y/\Hx.dig y<103:=fun y h1 h2=>by unfold Hx.dig;split <;> omega
 have hn2:48<=n/\n<103:=by
  simp only[List.mem_cons,List.not_mem_nil,or_false] at hn
  rcases hn with rfl | rfl
  ·exact hd _ (by omega) (by omega)
  ·exact hd _ (by omega) (by omega)
 have h2:=congrArg UInt8.toNat e
 rw[UInt8.toNat_ofNat'] at h2
 have:(10:UInt8).toNat=10:=rfl
 omega
theorem tag_lines (t:Tg):∃ l1 l2 l3 l4,x9 t=uy++32 :: (xw t.id++10 :: l1)/\l1=X9++32 :: ((kN t.kind).data.toList++10 :: l2)/\l2=Q0++32 :: (t.name++10 :: l3)/\l3=vw++32 :: (qq t.per++10 :: l4)/\l4=10 :: t.msg:=by
 refine⟨_,_,_,_,?_,rfl,rfl,rfl,rfl⟩
 simp[x9,ln2,yQ,yu,xk,qk,uy,X9,Q0,vw]
theorem two_no (n:Nat) (h:n<100):(10:UInt8) ∉ two n:=by
 intro hm
 have k1:=y8 (n / 10) (by omega)
 have k2:=y8 (n % 10) (by omega)
 have k3:(10:UInt8).toNat=10:=rfl
 simp only[two,List.mem_cons,List.not_mem_nil,or_false] at hm
 rcases hm with e | e
 ·rw[<-e] at k1;omega
 ·rw[<-e] at k2;omega
theorem Vk (q:Per) (hq:okP q):(10:UInt8) ∉ qq q:=by
 obtain⟨⟨_,nb,_⟩,⟨_,mb,_⟩,_,z1,z2⟩:=hq
 rw[perB_parts]
 intro h
 simp only[List.mem_append] at h
 rcases h with h | h | h | h | h | h | h | h
 ·exact(nb 10 h).2.2.1 rfl
 ·simp at h
 ·exact(mb 10 h).2.2.1 rfl
 ·simp at h
 ·have h1:=((Vx q.time.toNat).2.1 10 h).1
  have h2:(10:UInt8).toNat=10:=rfl
  omega
 ·unfold zs at h
  split at h <;> simp at h
 ·exact two_no _ (by unfold zh;omega) h
 ·exact two_no _ (by unfold zm;omega) h
theorem kN_no (k:Int):(10:UInt8) ∉ (kN k).data.toList:=by
 unfold kN
 split
 ·decide
 ·split
  ·decide
  ·split
   ·decide
   ·split <;> decide
theorem name_no (s:List UInt8) (h:okN s):(10:UInt8) ∉ s:=fun hm=>absurd (h.2.2 10 hm) (by decide)
theorem tag_ln (t:Tg) (hz:∀ n ∈ t.id,0<=n/\n<256) (hg:okG t):∃ l1 l2 l3 l4,Ln (x9 t) uy (xw t.id) l1/\Ln l1 X9 (kN t.kind).data.toList l2/\Ln l2 Q0 t.name l3/\Ln l3 vw (qq t.per) l4/\l4=10 :: t.msg:=by
 obtain⟨l1,l2,l3,l4,e1,e2,e3,e4,e5⟩:=tag_lines t
 exact⟨l1,l2,l3,l4,⟨e1,YQ t.id hz⟩,⟨e2,kN_no _⟩,⟨e3,name_no _ hg.2.1⟩,⟨e4,Vk _ hg.2.2.1⟩,e5⟩
theorem tg_back (t T:Tg) (hl:t.id.length=20) (hz:∀ n ∈ t.id,0<=n/\n<256) (hg:okG t) (h:TG (x9 t) T):T=t:=by
 obtain⟨l1,l2,l3,l4,e1,e2,e3,e4,e5⟩:=tag_ln t hz hg
 obtain⟨f1,r1⟩:=Y6 e1 (by decide)
 obtain⟨f2,r2⟩:=Y6 e2 (by decide)
 obtain⟨f3,r3⟩:=Y6 e3 (by decide)
 obtain⟨f4,r4⟩:=Y6 e4 (by decide)
 have r5:rst l4=t.msg:=by
  rw[e5]
  unfold rst
  rw[show (10:UInt8) :: t.msg=[]++10 :: t.msg from rfl,ku [] t.msg 10 (by simp)]
 obtain⟨g1,⟨k,g2,g2'⟩,g3,g4,g5⟩:=h
 rw[f1] at g1
 rw[r1,f2] at g2'
 rw[r1,r2,f3] at g3
 rw[r1,r2,r3,f4] at g4
 rw[r1,r2,r3,r4,r5] at g5
 have a1:=pid_back t.id T.id hl hz g1
 have a2:=kO_back t.kind hg.1 k g2'
 have a4:=pp_back t.per hg.2.2.1 T.per g4
 obtain⟨x1,x2,x3,x4,x5⟩:=T
 obtain⟨y1,y2,y3,y4,y5⟩:=t
 simp only at a1 a2 a4 g2 g3 g5
 subst a1
 subst g3
 subst a4
 subst g5
 rw[g2,a2]
end Go.Proofs.YticgindfipobiaaGreatDoor
namespace Go.Proofs.YticgindfipobiaaGreatDoor
open Go.RowKit
theorem Tryz.size125:(Tryz.prog.info? 125).map (·.size)=some 27:=by kernel_rfl
theorem Tryz.results50:Tryz.f50.results=#[.cell 2 125,.tmp 3]:=by kernel_rfl
theorem zero75 (w:World):(zeroValue 125).run Tryz.prog w=.ok (.agg (tgV (tg0 z20)).toArray) w:=by kernel_rfl
def PL (s wd o r:List UInt8) (b:Bool):Prop:=(b=true->Ln s wd o r)/\(b=false->∀ o r,¬ Ln s wd o r)/\r.length<=s.length/\o.length<=s.length
theorem j9.form {s wd:List UInt8} {e:Ending} (h:j9 s wd e):∃ o r b,e=.returned (.tuple #[.string ⟨o.toArray⟩,.string ⟨r.toArray⟩,.bool b])/\PL s wd o r b:=by
 rcases h with ⟨o,r,hl,rfl⟩ | ⟨hn,rfl⟩
 ·refine⟨o,r,true,rfl,fun _=>hl,(fun h=>by cases h),?_,?_⟩
  ·obtain⟨rfl,_⟩:=hl
   simp
   omega
  ·obtain⟨rfl,_⟩:=hl
   simp
   omega
 ·exact⟨[],s,false,rfl,(fun h=>by cases h),fun _=>hn,Nat.le_refl _,Nat.zero_le _⟩
theorem Ln.uniq {s wd o r o' r':List UInt8} (h:Ln s wd o r) (h':Ln s wd o' r'):o=o'/\r=r':=by
 obtain⟨e1,n1⟩:=h
 obtain⟨e2,n2⟩:=h'
 rw[e1] at e2
 have e3:=List.append_cancel_left e2
 have e4:o++10 :: r=o'++10 :: r':=by injection e3
 have e5:=congrArg (fun x=>Lib.cut x [10]) e4
 rw[ku o r 10 n1,ku o' r' 10 n2] at e5
 simp only[Prod.mk.injEq] at e5
 exact⟨e5.1,e5.2.1⟩
def PQ (t:List UInt8) (fr:List Int) (g:Bool):Prop:=fr.length=20/\(∀ n ∈ fr,0<=n/\n<256)/\(t.length=40/\Hx.good ⟨t.toArray⟩->g=true/\fr=Hx.idAt ⟨t.toArray⟩ 40)
def PostQR (t:List UInt8) (e:Ending):Prop := ∃ (fr:List Int) (g:Bool),e=.returned (.tuple #[.agg (row .u8 fr).toArray,.bool g])/\PQ t fr g
theorem Q6 (t:List UInt8) (w:World) (hl:t.length<=300000):Calls Tryz.prog 69 #[.string ⟨t.toArray⟩] w fun e w'=>Below w.heap.size w w'/\PostQR t e:=by
 have hsz:(⟨t.toArray⟩:ByteArray).size=t.length:=by simp[ByteArray.size]
 refine(Hx.parse_ref ⟨t.toArray⟩ w (by rw[hsz];exact hl)).mono ?_
 rintro e w' ⟨hb,h1,h2⟩
 refine⟨hb,?_⟩
 rw[hsz] at h1 h2
 by_cases h:t.length=40/\Hx.good ⟨t.toArray⟩
 ·exact⟨Hx.idAt ⟨t.toArray⟩ 40,true,h1 h,Hx.idAt_len _ _,fun n hn=>Hx.idAt_bd _ _ n hn,fun _=>⟨rfl,rfl⟩⟩
 ·exact⟨Hx.zeros,false,h2 h,rfl,fun n hn=>by rw[List.eq_of_mem_replicate hn];omega,fun h3=>absurd h3 h⟩
def Wf (u:Tg):Prop:=u.id.length=20/\∀ n ∈ u.id,0<=n/\n<256
theorem tag_read {l o1 r1 o2 r2 o3 r3 o4 r4:List UInt8} {b1 b2 b3 b4 g:Bool} {fr:List Int} (p1:PL l uy o1 r1 b1) (p2:PL r1 X9 o2 r2 b2) (p3:PL r2 Q0 o3 r3 b3) (p4:PL r3 vw o4 r4 b4) (hq:PQ o1 fr g)
  (u:Tg) (hu:Wf u) (ho:okG u) (h:x9 u=l):b1=true/\b2=true/\b3=true/\b4=true/\g=true/\fr=u.id/\o2=(kN u.kind).data.toList/\o3=u.name/\o4=qq u.per/\r4=10 :: u.msg:=by
 obtain⟨l1,l2,l3,l4,e1,e2,e3,e4,e5⟩:=tag_ln u hu.2 ho
 rw[h] at e1
 have t1:b1=true:=by
  rcases Bool.eq_false_or_eq_true b1 with h | h
  ·exact h
  ·exact absurd e1 (p1.2.1 h _ _)
 obtain⟨rfl,rfl⟩:=(p1.1 t1).uniq e1
 have t2:b2=true:=by
  rcases Bool.eq_false_or_eq_true b2 with h | h
  ·exact h
  ·exact absurd e2 (p2.2.1 h _ _)
 obtain⟨rfl,rfl⟩:=(p2.1 t2).uniq e2
 have t3:b3=true:=by
  rcases Bool.eq_false_or_eq_true b3 with h | h
  ·exact h
  ·exact absurd e3 (p3.2.1 h _ _)
 obtain⟨rfl,rfl⟩:=(p3.1 t3).uniq e3
 have t4:b4=true:=by
  rcases Bool.eq_false_or_eq_true b4 with h | h
  ·exact h
  ·exact absurd e4 (p4.2.1 h _ _)
 obtain⟨rfl,rfl⟩:=(p4.1 t4).uniq e4
 have e:(⟨(xw u.id).toArray⟩:ByteArray)=strOfNums (Hx.hexOf u.id):=rfl
 obtain⟨g1,g2⟩:=hq.2.2 ⟨by rw[uq,hu.1],by rw[e];exact Hx.hex_good u.id hu.1 hu.2⟩
 refine⟨t1,t2,t3,t4,g1,?_,rfl,rfl,rfl,e5⟩
 rw[g2,e]
 exact Hx.hex_back u.id hu.1 hu.2
theorem kN_four (k:Int) (hk:¬ (kN k).toList.isEmpty=true):k=1 ∨ k=2 ∨ k=3 ∨ k=4:=by
 unfold kN at hk
 by_cases h1:k=1
 ·exact .inl h1
 by_cases h2:k=2
 ·exact .inr (.inl h2)
 by_cases h3:k=3
 ·exact .inr (.inr (.inl h3))
 by_cases h4:k=4
 ·exact .inr (.inr (.inr h4))
 rw[if_neg (by simpa using h1),if_neg (by simpa using h2),if_neg (by simpa using h3),if_neg (by simpa using h4)] at hk
 rw[Lib.toList_data] at hk
 exact absurd rfl hk
theorem kN_inj4 (k:Int) (j:Nat) (hk:¬ (kN k).toList.isEmpty=true) (h1:1<=j) (h4:j<=4) (h:((kN j).toList == (kN k).toList)=true):(j:Int)=k :=
 kO_back k hk j (.inl ⟨h1,h4,h⟩)
def setAt:List Value->Nat->List Value->List Value
 | l,_,[]=>l
 | l,o,v :: vs=>setAt (l.set o v) (o+1) vs
theorem qY (g:Nat) (t:TypeId):∀ (vs:List Value) (o:Nat) (w:World) (l:List Value),w.heap[g]? = some (.cells l.toArray t (0,0))->(w.setCells g o vs).heap[g]? = some (.cells (setAt l o vs).toArray t (0,0))
 | [],_,_,_,h=>h
 | v :: vs,o,w,l,h=>by
  show ((w.setCell ⟨g,o,none⟩ v).setCells g (o+1) vs).heap[g]? = _
  refine qY g t vs (o+1) _ (l.set o v) ?_
  rw[heap_setCell_same w g o _ t v h,List.setIfInBounds_toArray]
theorem uJ:∀ (new old pre rest:List Value),new.length=old.length->setAt (pre++(old++rest)) pre.length new=pre++(new++rest)
 | [],[],pre,rest,_=>rfl
 | v :: new,x :: old,pre,rest,h=>by
  show setAt ((pre++(x :: (old++rest))).set pre.length v) (pre.length+1) new=_
  rw[List.set_append_right _ _ (Nat.le_refl _),Nat.sub_self,List.set_cons_zero]
  have:=uJ new old (pre++[v]) rest (by simpa using h)
  simpa using this
structure TR (G:Nat) (zr:Array Value) (T:Tg) (w W:World):Prop where
 below:Below G w W
 tag:W.heap[G+1]? = some (.cells (tgV T).toArray 125 (0,0))
 res:W.heap[G]? = some (.cells zr 125 (0,0))
theorem TR.grow {G:Nat} {zr:Array Value} {T:Tg} {w W W':World} (h:TR G zr T w W) (hb:Below W.heap.size W W'):TR G zr T w W' :=
 ⟨h.below.trans (hb.mono (Nat.le_of_lt (z6 h.res))),(hb.block _ (z6 h.tag)).trans h.tag,(hb.block _ (z6 h.res)).trans h.res⟩
theorem TR.set {G:Nat} {zr:Array Value} {T T':Tg} {w W:World} (h:TR G zr T w W) (i:Nat) (v:Value) (he:(tgV T).set i v=tgV T'):TR G zr T' w (W.setCell ⟨G+1,i,none⟩ v) :=
 ⟨h.below.setCell (by show G<=G+1;omega) _,by rw[heap_setCell_same W (G+1) i _ 125 v h.tag,List.setIfInBounds_toArray,he],(heap_setCell_other W ⟨G+1,i,none⟩ G v (by show G ≠ G+1;omega)).trans h.res⟩
theorem TR.id {G:Nat} {zr:Array Value} {T:Tg} {w W:World} (h:TR G zr T w W) (hl:T.id.length=20) (fr:List Int) (hf:fr.length=20):TR G zr { T with id:=fr } w (W.setCells (G+1) 0 (row .u8 fr)):=by
 refine⟨z7 (by omega) _ _ _ _ h.below,?_,(q9 (G+1) G (by omega) _ _ _).trans h.res⟩
 rw[qY (G+1) 125 (row .u8 fr) 0 W (tgV T) h.tag]
 have:=uJ (row .u8 fr) (row .u8 T.id) [] ([.int .i64 T.kind,.string ⟨T.name.toArray⟩,.string ⟨T.per.name.toArray⟩,.string ⟨T.per.mail.toArray⟩,.int .i64 T.per.time,.int .i64 T.per.zone,.string ⟨T.msg.toArray⟩] : List Value) (by rw[zq,zq,hl,hf])
 simp only[List.nil_append,List.length_nil] at this
 unfold tgV
 rw[this]
theorem TR.per {G:Nat} {zr:Array Value} {T:Tg} {w W:World} (h:TR G zr T w W) (hl:T.id.length=20) (p:Per):TR G zr { T with per:=p } w (W.setCells (G+1) 22 (qK p).toList):=by
 have h1:=h.set 22 (.string ⟨p.name.toArray⟩) (set_pn T hl _)
 have h2:=h1.set 23 (.string ⟨p.mail.toArray⟩) (set_pm _ (by exact hl) _)
 have h3:=h2.set 24 (.int .i64 p.time) (set_pt _ (by exact hl) _)
 have h4:=h3.set 25 (.int .i64 p.zone) (set_pz _ (by exact hl) _)
 exact h4
theorem TR.cell {G:Nat} {zr:Array Value} {T:Tg} {w W:World} (h:TR G zr T w W) (hl:T.id.length=20) (i:Nat) (hi:i<27):∃ v,W.cell? ⟨G+1,i,none⟩=some v/\W.frozen? ⟨G+1,i,none⟩=false:=by
 have h1:(tgV T).toArray[i]? = some ((tgV T)[i]'(by rw[y9 T hl];exact hi)):=by simp[y9 T hl,hi]
 exact⟨_,(cell_of_row W (G+1) i _ _ _ h.tag).trans h1,frozen_of_row W (G+1) i _ _ h.tag⟩
def PostRT (l:List UInt8) (e:Ending):Prop := ∃ (t:Tg) (b:Bool),e=.returned (.tuple #[.agg (tgV t).toArray,.bool b])/\Wf t/\(b=true->okG t/\x9 t=l)/\∀ u:Tg,Wf u->okG u->x9 u=l->b=true
def OE (e:TypeId) (B:Nat) (a:Option Addr) (cap:Nat) (ids:List (List Int)) (W:World):Prop:=W.ownsRow B e 20 (.slice a ids.length cap) ids.length (ids.flatMap (row .u8))
section
variable {e : TypeId} {B B' g : Nat} {a : Option Addr} {cap : Nat} {ids : List (List Int)} {W W' : World}
theorem OE.keep (h:OE e B a cap ids W) (hb:Below W.heap.size W W'):OE e B a cap ids W':=World.ownsRow.kept h (zw hb none) (by
 cases a with
 | none=>left;rfl
 | some x=>right;simp[Value.ownBlock])
theorem OE.step (h:OE e B a cap ids W) (hgr:W.grownBy W' (some g)) (hg:g<B):OE e B a cap ids W':=by
 refine World.ownsRow.kept h hgr ?_
 obtain⟨_,⟨hv,_⟩ | ⟨g2,cap2,cur,hv,hb,_⟩⟩:=h
 ·rw[hv];left;rfl
 ·rw[hv];right
  simp[Value.ownBlock]
  omega
theorem OE.setCells (h:OE e B a cap ids W) (hg:g<B) (o:Nat) (vs:List Value):OE e B a cap ids (W.setCells g o vs):=by
 have hb:=z7 (Nat.le_refl g) vs o W W (Below.refl g W)
 exact h.step ⟨hb.os,hb.tape,hb.output,hb.size,fun k hk hne=>q9 g k (fun e=>hne (by rw[e])) vs o _⟩ hg
theorem OE.setRow (h:OE e B a cap ids W) (hg:g<B) (vs:Array Value):OE e B a cap ids (W.setRow g vs):=by
 have hb:=below_setRow (Below.refl g W) (Nat.le_refl g) vs
 exact h.step ⟨hb.os,hb.tape,hb.output,hb.size,fun k hk hne=>setRow_other _ _ _ _ (fun e=>hne (by rw[e]))⟩ hg
theorem OE.lower (h:OE e B a cap ids W) (hb:B'<=B):OE e B' a cap ids W:=by
 obtain⟨hl,h | ⟨g,cap2,cur,hv,hg,r⟩⟩:=h
 ·exact⟨hl,.inl h⟩
 ·exact⟨hl,.inr ⟨g,cap2,cur,hv,by omega,r⟩⟩
theorem OE.snoc {ao:Option Addr} {n:Nat} {fr:List Int} (hn:ids.length=n) (h:W.ownsRow B e 20 (.slice ao (n+1:Nat) cap) (n+1) (ids.flatMap (row .u8)++row .u8 fr)):OE e B ao cap (ids++[fr]) W:=by
 unfold OE
 have e1:(ids++[fr]).length=n+1:=by simp[hn]
 rw[e1,List.flatMap_append]
 simpa using h
theorem OE.pa (h:OE e B a cap ids W) (hw:WfI ids):Pa W a cap ids:=by
 obtain⟨hl,⟨hv,h0⟩ | ⟨g,cap2,cur,hv,hb,hh,hkc,hcm,hsz,htk⟩⟩:=h
 ·simp only[Value.slice.injEq] at hv
  obtain⟨rfl,_,rfl⟩:=hv
  exact⟨by omega,fun h=>by omega,fun _=>rfl⟩
 ·simp only[Value.slice.injEq] at hv
  obtain⟨rfl,_,rfl⟩:=hv
  refine⟨hkc,fun _=>⟨g,0,rfl,(Array.getElem?_eq_some_iff.1 hh).1,fun i hi j v hv=>?_⟩,fun e=>by cases e⟩
  have h1:=flat_at ids hw i j v hi hv
  rw[<-htk] at h1
  rw[Nat.zero_add,cell_of_row W g (i*20+j) _ _ _ hh]
  have hlt:i*20+j<ids.length*20:=by
   have h2:=(List.getElem?_eq_some_iff.1 h1).1
   rw[List.length_take] at h2
   omega
  rw[List.getElem?_take_of_lt hlt] at h1
  simpa using h1
end
def j6 (u:Cm) (k:Nat):List UInt8:=(u.ids.drop k).flatMap (fun x=>ln2 yY.data.toList (xw x))++(ln2 yX.data.toList (qq u.au)++(ln2 qQ.data.toList (qq u.co)++10 :: u.msg))
theorem cmB_tree (u:Cm):cmB u=Qw++32 :: (xw u.tree++10 :: j6 u 0):=by
 simp[cmB,j6,ln2,jV,Qw]
theorem Q7 (u:Cm) (k:Nat) (h:k<u.ids.length):j6 u k=qJ++32 :: (xw (u.ids.getD k [])++10 :: j6 u (k+1)):=by
 unfold j6
 rw[List.drop_eq_getElem_cons h,List.flatMap_cons,List.getD_eq_getElem?_getD,List.getElem?_eq_getElem h]
 simp[ln2,yY,qJ]
theorem YX (u:Cm) (k:Nat) (h:u.ids.length<=k):j6 u k=xx++32 :: (qq u.au++10 :: (qy++32 :: (qq u.co++10 :: (10 :: u.msg)))):=by
 unfold j6
 rw[List.drop_of_length_le h]
 simp[ln2,yX,qQ,xx,qy]
def UI (l:List UInt8) (fr:List Int) (ids:List (List Int)) (r:List UInt8):Prop := ∀ u:Cm,WfC u->okC u->cmB u=l->fr=u.tree/\ids.length<=u.ids.length/\ids=u.ids.take ids.length/\r=j6 u ids.length
theorem ui_start {l o1 r1:List UInt8} {b1 gd:Bool} {fr:List Int} (p1:PL l Qw o1 r1 b1) (hq:PQ o1 fr gd):UI l fr [] r1/\∀ u:Cm,WfC u->okC u->cmB u=l->b1=true/\gd=true:=by
 have key:∀ u:Cm,WfC u->okC u->cmB u=l->b1=true/\gd=true/\fr=u.tree/\r1=j6 u 0:=fun u hu ho h=>by
  have e1:Ln l Qw (xw u.tree) (j6 u 0):=⟨by rw[<-h];exact cmB_tree u,YQ u.tree hu.1.2⟩
  have t1:b1=true:=by
   rcases Bool.eq_false_or_eq_true b1 with h | h
   ·exact h
   ·exact absurd e1 (p1.2.1 h _ _)
  obtain⟨rfl,rfl⟩:=(p1.1 t1).uniq e1
  have e:(⟨(xw u.tree).toArray⟩:ByteArray)=strOfNums (Hx.hexOf u.tree):=rfl
  obtain⟨g1,g2⟩:=hq.2.2 ⟨by rw[uq,hu.1.1],by rw[e];exact Hx.hex_good u.tree hu.1.1 hu.1.2⟩
  refine⟨t1,g1,?_,rfl⟩
  rw[g2,e]
  exact Hx.hex_back u.tree hu.1.1 hu.1.2
 refine⟨fun u hu ho h=>?_,fun u hu ho h=>?_⟩
 ·obtain⟨_,_,h3,h4⟩:=key u hu ho h
  exact⟨h3,Nat.zero_le _,rfl,h4⟩
 ·obtain⟨h1,h2,_⟩:=key u hu ho h
  exact⟨h1,h2⟩
theorem UI.step {l r o r':List UInt8} {fr fx:List Int} {ids:List (List Int)} {gd:Bool} (h:UI l fr ids r) (p:PL r qJ o r' true) (hq:PQ o fx gd):UI l fr (ids++[fx]) r'/\∀ u:Cm,WfC u->okC u->cmB u=l->gd=true:=by
 have key:∀ u:Cm,WfC u->okC u->cmB u=l->gd=true/\ids.length<u.ids.length/\fx=u.ids.getD ids.length []/\r'=j6 u (ids.length+1):=fun u hu ho hl=>by
  obtain⟨_,h2,h3,h4⟩:=h u hu ho hl
  have hlt:ids.length<u.ids.length:=by
   rcases Nat.lt_or_ge ids.length u.ids.length with h | h
   ·exact h
   ·have h5:=(p.1 rfl).1
    rw[h4,YX u _ h] at h5
    exact absurd (congrArg List.head? h5) (by simp[xx,qJ])
  have hx:=hu.2 (u.ids.getD ids.length []) (by rw[List.getD_eq_getElem?_getD,List.getElem?_eq_getElem hlt];exact List.getElem_mem _)
  have e1:Ln r qJ (xw (u.ids.getD ids.length [])) (j6 u (ids.length+1)):=⟨by rw[h4];exact Q7 u _ hlt,YQ _ hx.2⟩
  obtain⟨rfl,rfl⟩:=(p.1 rfl).uniq e1
  have e:(⟨(xw (u.ids.getD ids.length [])).toArray⟩:ByteArray)=strOfNums (Hx.hexOf (u.ids.getD ids.length [])):=rfl
  obtain⟨g1,g2⟩:=hq.2.2 ⟨by rw[uq,hx.1],by rw[e];exact Hx.hex_good _ hx.1 hx.2⟩
  refine⟨g1,hlt,?_,rfl⟩
  rw[g2,e]
  exact Hx.hex_back _ hx.1 hx.2
 refine⟨fun u hu ho hl=>?_,fun u hu ho hl=>(key u hu ho hl).1⟩
 obtain⟨k1,k2,k3,k4⟩:=key u hu ho hl
 obtain⟨h1,h2,h3,h4⟩:=h u hu ho hl
 have e1:(ids++[fx]).length=ids.length+1:=by simp
 refine⟨h1,by rw[e1];exact k2,?_,by rw[e1];exact k4⟩
 rw[e1,uQ u.ids ids.length k2,<-h3,k3]
theorem UI.last {l r o r':List UInt8} {fr:List Int} {ids:List (List Int)} (h:UI l fr ids r) (p:PL r qJ o r' false) (u:Cm) (hu:WfC u) (ho:okC u) (hl:cmB u=l):fr=u.tree/\ids=u.ids/\r=xx++32 :: (qq u.au++10 :: (qy++32 :: (qq u.co++10 :: (10 :: u.msg)))):=by
 obtain⟨h1,h2,h3,h4⟩:=h u hu ho hl
 have hge:u.ids.length<=ids.length:=by
  rcases Nat.lt_or_ge ids.length u.ids.length with h | h
  ·have hx:=hu.2 (u.ids.getD ids.length []) (by rw[List.getD_eq_getElem?_getD,List.getElem?_eq_getElem h];exact List.getElem_mem _)
   exact absurd (⟨by rw[h4];exact Q7 u _ h,YQ _ hx.2⟩:Ln r qJ (xw (u.ids.getD ids.length [])) (j6 u (ids.length+1))) (p.2.1 rfl _ _)
  ·exact h
 refine⟨h1,?_,by rw[h4];exact YX u _ hge⟩
 rw[h3]
 exact List.take_of_length_le hge
theorem UI.pers {l r o o3 r3 o4 r4 r':List UInt8} {fr:List Int} {ids:List (List Int)} {b3 b4:Bool} (h:UI l fr ids r) (p:PL r qJ o r' false) (p3:PL r xx o3 r3 b3) (p4:PL r3 qy o4 r4 b4) (u:Cm) (hu:WfC u) (ho:okC u) (hl:cmB u=l) :
  fr=u.tree/\ids=u.ids/\b3=true/\b4=true/\o3=qq u.au/\o4=qq u.co/\r4=10 :: u.msg:=by
 obtain⟨h1,h2,h3⟩:=h.last p u hu ho hl
 have e3:Ln r xx (qq u.au) (qy++32 :: (qq u.co++10 :: (10 :: u.msg))):=⟨h3,Vk _ ho.2.2.1⟩
 have t3:b3=true:=by
  rcases Bool.eq_false_or_eq_true b3 with h | h
  ·exact h
  ·exact absurd e3 (p3.2.1 h _ _)
 obtain⟨rfl,rfl⟩:=(p3.1 t3).uniq e3
 have e4:Ln (qy++32 :: (qq u.co++10 :: (10 :: u.msg))) qy (qq u.co) (10 :: u.msg):=⟨rfl,Vk _ ho.2.2.2.1⟩
 have t4:b4=true:=by
  rcases Bool.eq_false_or_eq_true b4 with h | h
  ·exact h
  ·exact absurd e4 (p4.2.1 h _ _)
 obtain⟨rfl,rfl⟩:=(p4.1 t4).uniq e4
 exact⟨h1,h2,t3,t4,rfl,rfl,rfl⟩
theorem fld_hasP (r:List UInt8) (x y:List UInt8) (h:r=qJ++32 :: (x++10 :: y)):hasP r=true:=by
 subst h
 unfold hasP Lib.hasPrefix
 simp[qJ]
theorem pqs_back (u:Cm) (hu:WfC u) (ho:okC u) {ids:List (List Int)} {r:List UInt8} (h:PQs (j6 u 0) ids r):ids.length<=u.ids.length/\ids=u.ids.take ids.length/\r=j6 u ids.length:=by
 induction h using PQs.ind with
 | zero=>exact⟨Nat.zero_le _,rfl,rfl⟩
 | @step ids r fx h1 h2 h3 ih =>
  obtain⟨i1,i2,i3⟩:=ih
  have hlt:ids.length<u.ids.length:=by
   rcases Nat.lt_or_ge ids.length u.ids.length with h | h
   ·exact h
   ·rw[i3,YX u _ h] at h2
    unfold hasP Lib.hasPrefix at h2
    simp[xx,qJ] at h2
  have hx:=hu.2 (u.ids.getD ids.length []) (by rw[List.getD_eq_getElem?_getD,List.getElem?_eq_getElem hlt];exact List.getElem_mem _)
  have e1:Ln r qJ (xw (u.ids.getD ids.length [])) (j6 u (ids.length+1)):=⟨by rw[i3];exact Q7 u _ hlt,YQ _ hx.2⟩
  obtain⟨f1,r1⟩:=Y6 e1 (by decide)
  rw[f1] at h3
  have e:(ids++[fx]).length=ids.length+1:=by simp
  refine⟨by rw[e];exact hlt,?_,by rw[e];exact r1⟩
  rw[e,uQ u.ids ids.length hlt,<-i2,pid_back _ fx hx.1 hx.2 h3]
theorem cm_back (u C:Cm) (hu:WfC u) (ho:okC u) (h:TC (cmB u) C):C=u:=by
 obtain⟨g1,r,g2,g3,g4,g5,g6⟩:=h
 have e0:Ln (cmB u) Qw (xw u.tree) (j6 u 0):=⟨cmB_tree u,YQ u.tree hu.1.2⟩
 obtain⟨f0,r0⟩:=Y6 e0 (by decide)
 rw[f0] at g1
 rw[r0] at g2
 obtain⟨i1,i2,i3⟩:=pqs_back u hu ho g2
 have hge:u.ids.length<=C.ids.length:=by
  rcases Nat.lt_or_ge C.ids.length u.ids.length with h | h
  ·have:=fld_hasP r _ _ (by rw[i3];exact Q7 u _ h)
   rw[this] at g3
   cases g3
  ·exact h
 rw[YX u _ hge] at i3
 have e3:Ln r xx (qq u.au) (qy++32 :: (qq u.co++10 :: (10 :: u.msg))):=⟨i3,Vk _ ho.2.2.1⟩
 obtain⟨f3,r3⟩:=Y6 e3 (by decide)
 have e4:Ln (qy++32 :: (qq u.co++10 :: (10 :: u.msg))) qy (qq u.co) (10 :: u.msg):=⟨rfl,Vk _ ho.2.2.2.1⟩
 obtain⟨f4,r4⟩:=Y6 e4 (by decide)
 have r5:rst (10 :: u.msg)=u.msg:=by
  unfold rst
  rw[show (10:UInt8) :: u.msg=[]++10 :: u.msg from rfl,ku [] u.msg 10 (by simp)]
 rw[f3] at g4
 rw[r3,f4] at g5
 rw[r3,r4,r5] at g6
 have a1:=pid_back u.tree C.tree hu.1.1 hu.1.2 g1
 have a2:C.ids=u.ids:=by rw[i2];exact List.take_of_length_le hge
 have a3:=pp_back u.au ho.2.2.1 C.au g4
 have a4:=pp_back u.co ho.2.2.2.1 C.co g5
 obtain⟨x1,x2,x3,x4,x5⟩:=C
 obtain⟨y1,y2,y3,y4,y5⟩:=u
 simp only at a1 a2 a3 a4 g6
 subst a1
 subst a2
 subst a3
 subst a4
 subst g6
 rfl
end Go.Proofs.YticgindfipobiaaGreatDoor
