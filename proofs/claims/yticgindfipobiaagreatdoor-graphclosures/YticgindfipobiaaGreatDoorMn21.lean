import Derived.Test.YticgindfipobiaaGreatDoorMn20
import Derived.Test.YticgindfipobiaaGreatDoorMn09
set_option linter.unusedSimpArgs false
set_option linter.unusedVariables false
set_option maxRecDepth 20000
set_option maxHeartbeats 4000000
namespace Go.Proofs.YticgindfipobiaaGreatDoor
theorem first_at {s a b:List UInt8} {c:UInt8} {o:Nat} (hs:s=a++c :: b) (ha:c ∉ a) (h1:∀ x ∈ s.take o,x ≠ c) (h2:o=s.length ∨ s[o]? = some c):o=a.length:=by
 have hl:s.length=a.length+(b.length+1):=by rw[hs];simp
 rcases Nat.lt_trichotomy o a.length with h | h | h
 ·rcases h2 with h2 | h2
  ·omega
  ·rw[hs,List.getElem?_append_left h] at h2
   exact absurd (List.mem_of_getElem? h2) ha
 ·exact h
 ·refine absurd rfl (h1 c ?_)
  have hx:s[a.length]? = some c:=by rw[hs,List.getElem?_append_right (Nat.le_refl _)];simp
  have h3:(s.take o)[a.length]? = some c:=by rw[List.getElem?_take_of_lt h];exact hx
  exact List.mem_of_getElem? h3
def zh (q:Per):Nat:=q.zone.natAbs / 60
def zm (q:Per):Nat:=q.zone.natAbs % 60
def zs (q:Per):UInt8:=if q.zone<0 then 45 else 43
theorem perB_parts (q:Per):qq q=q.name++([32,60]++(q.mail++([62,32]++(Lib.decDigits q.time.toNat++([32,zs q]++(two (zh q)++two (zm q))))))):=by
 simp[qq,vQ,zs,zh,zm]
theorem two_len (n:Nat):(two n).length=2:=rfl
theorem Vq (a b:List UInt8) (n:Nat) (h:a.length=n):(a++b).drop n=b:=List.drop_left' h
theorem take_at (a b:List UInt8) (n:Nat) (h:a.length=n):(a++b).take n=a:=List.take_left' h
theorem per_parts (q:Per) (hq:okP q) (s:List UInt8) (hs:qq q=s) (o sh:Nat) (ho:∀ x ∈ s.take o,x ≠ 60) (ho2:o=s.length ∨ s[o]? = some 60)
  (hle:o<=sh) (hsh:∀ x ∈ (s.take sh).drop o,x ≠ 62) (hsh2:sh=s.length ∨ s[sh]? = some 62) :
  o=q.name.length+1/\sh=q.name.length+2+q.mail.length/\s.length=sh+8+(Lib.decDigits q.time.toNat).length/\s.take (o-1)=q.name/\(s.drop (o+1)).take (sh-(o+1))=q.mail/\
   (s.drop (sh+2)).take (s.length-6-(sh+2))=Lib.decDigits q.time.toNat/\(s.drop (s.length-4)).take 2=two (zh q)/\s.drop (s.length-2)=two (zm q)/\s[s.length-5]? = some (zs q):=by
 obtain⟨⟨n1,nb,_⟩,⟨m1,mb,_⟩,_,_,_⟩:=hq
 obtain⟨D,HD⟩:∃ D,D=Lib.decDigits q.time.toNat:=⟨_,rfl⟩
 have hp:=perB_parts q
 rw[hs,<-HD] at hp
 rw[<-HD]
 have e1:o=q.name.length+1:=by
  have h:=first_at (a:=q.name++[32]) (b:=q.mail++([62,32]++(D++([32,zs q]++(two (zh q)++two (zm q)))))) (c:=60) (by rw[hp];simp) (by
   intro h
   rcases List.mem_append.1 h with h | h
   ·exact(nb 60 h).1 rfl
   ·simp at h) ho ho2
  simpa using h
 have e2:sh=q.name.length+2+q.mail.length:=by
  have hd:s.drop o=(60 :: q.mail)++62 :: ([32]++(D++([32,zs q]++(two (zh q)++two (zm q))))):=by
   rw[hp,show q.name++([32,60]++(q.mail++([62,32]++(D++([32,zs q]++(two (zh q)++two (zm q)))))))=(q.name++[32])++((60 :: q.mail)++62 :: ([32]++(D++([32,zs q]++(two (zh q)++two (zm q)))))) from by simp]
   exact Vq _ _ _ (by simp[e1])
  have hl:sh<=s.length:=by
   rcases hsh2 with h | h
   ·omega
   ·exact Nat.le_of_lt (List.getElem?_eq_some_iff.1 h).1
  have h:=first_at (o:=sh-o) hd (by
   intro h
   rcases List.mem_cons.1 h with h | h
   ·cases h
   ·exact(mb 62 h).2.1 rfl) (by rw[<-List.drop_take];exact hsh) (by
   rcases hsh2 with h | h
   ·left;rw[List.length_drop];omega
   ·right;rw[List.getElem?_drop,show o+(sh-o)=sh from by omega];exact h)
  simp at h
  omega
 have hlen:s.length=sh+8+D.length:=by rw[hp,e2];simp[two_len];omega
 refine⟨e1,e2,hlen,?_,?_,?_,?_,?_,?_⟩
 ·rw[hp];exact take_at _ _ _ (by omega)
 ·rw[hp,show q.name++([32,60]++(q.mail++([62,32]++(D++([32,zs q]++(two (zh q)++two (zm q)))))))=(q.name++[32,60])++(q.mail++([62,32]++(D++([32,zs q]++(two (zh q)++two (zm q)))))) from by simp,Vq _ _ _ (by simp;omega)]
  exact take_at _ _ _ (by omega)
 ·rw[show s.length-6-(sh+2)=D.length from by omega,hp,show q.name++([32,60]++(q.mail++([62,32]++(D++([32,zs q]++(two (zh q)++two (zm q)))))))=(q.name++([32,60]++(q.mail++[62,32])))++(D++([32,zs q]++(two (zh q)++two (zm q)))) from by simp,Vq _ _ _ (by simp;omega)]
  exact take_at _ _ _ rfl
 ·rw[show s.length-4=(q.name++([32,60]++(q.mail++([62,32]++(D++[32,zs q]))))).length from by rw[hlen];simp;omega,hp,show q.name++([32,60]++(q.mail++([62,32]++(D++([32,zs q]++(two (zh q)++two (zm q)))))))=(q.name++([32,60]++(q.mail++([62,32]++(D++[32,zs q])))))++(two (zh q)++two (zm q)) from by simp,Vq _ _ _ rfl]
  exact take_at _ _ _ rfl
 ·rw[show s.length-2=(q.name++([32,60]++(q.mail++([62,32]++(D++([32,zs q]++two (zh q))))))).length from by rw[hlen];simp[two_len];omega,hp,show q.name++([32,60]++(q.mail++([62,32]++(D++([32,zs q]++(two (zh q)++two (zm q)))))))=(q.name++([32,60]++(q.mail++([62,32]++(D++([32,zs q]++two (zh q)))))))++two (zm q) from by simp]
  exact Vq _ _ _ rfl
 ·rw[show s.length-5=(q.name++([32,60]++(q.mail++([62,32]++(D++[32]))))).length from by rw[hlen];simp;omega,hp,show q.name++([32,60]++(q.mail++([62,32]++(D++([32,zs q]++(two (zh q)++two (zm q)))))))=(q.name++([32,60]++(q.mail++([62,32]++(D++[32])))))++(zs q :: (two (zh q)++two (zm q))) from by simp,List.getElem?_append_right (Nat.le_refl _)]
  simp
theorem y8 (m:Nat) (h:m<10):(UInt8.ofNat (48+m)).toNat=48+m:=by rw[UInt8.toNat_ofNat'];omega
theorem Vx (n:Nat):valN (Lib.decDigits n)=n/\(∀ x ∈ Lib.decDigits n,Vz x)/\1<=(Lib.decDigits n).length/\(1<=n->(Lib.decDigits n)[0]? ≠ some 48):=by
 induction n using Nat.strongRecOn with
 | _ n ih =>
  by_cases h:n<10
  ·have e:Lib.decDigits n=[UInt8.ofNat (48+n)]:=by rw[Lib.decDigits,dif_pos h]
   have hx:=y8 n h
   rw[e]
   refine⟨?_,?_,by simp,?_⟩
   ·simp only[valN,List.foldl_cons,List.foldl_nil,hx];omega
   ·intro x hx2
    have:x=UInt8.ofNat (48+n):=by simpa using hx2
    subst this
    unfold Vz
    omega
   ·intro h1 h2
    have h3:UInt8.ofNat (48+n)=48:=by simpa using h2
    rw[h3] at hx
    have:(48:UInt8).toNat=48:=rfl
    omega
  ·have e:Lib.decDigits n=Lib.decDigits (n / 10)++[UInt8.ofNat (48+n % 10)]:=by conv=>lhs;rw[Lib.decDigits,dif_neg h]
   have hx:=y8 (n % 10) (by omega)
   obtain⟨i1,i2,i3,i4⟩:=ih (n / 10) (by omega)
   rw[e]
   refine⟨?_,?_,by simp,?_⟩
   ·rw[valN_snoc,i1,hx];omega
   ·intro x hx2
    rcases List.mem_append.1 hx2 with h2 | h2
    ·exact i2 x h2
    ·have:x=UInt8.ofNat (48+n % 10):=by simpa using h2
     subst this
     unfold Vz
     omega
   ·intro _
    rw[List.getElem?_append_left (by omega)]
    exact i4 (by omega)
theorem num_dig {t:Nat} (ht:t<=1099511627776) {v:Int} (h:NuP (Lib.decDigits t) v):v=t:=by
 obtain⟨d1,d2,d3,d4⟩:=Vx t
 have hl:=Zx t ht
 rcases h with ⟨_,h⟩ | ⟨h,_⟩
 ·rw[h,d1]
 ·refine absurd ⟨d3,by omega,?_,d2⟩ h
  rintro⟨h1,h2⟩
  refine d4 ?_ h2
  rcases Nat.eq_zero_or_pos t with rfl | h3
  ·rw[show Lib.decDigits 0=[48] from by rw[Lib.decDigits];rfl] at h1
   simp at h1
  ·exact h3
theorem num_two {k:Nat} (hk:k<100) {v:Int} (h:NuP (49 :: two k) v):v=100+k:=by
 have h1:=y8 (k / 10) (by omega)
 have h2:=y8 (k % 10) (by omega)
 have e:valN (49 :: two k)=100+k:=by
  simp only[valN,two,List.foldl_cons,List.foldl_nil,h1,h2]
  have:(49:UInt8).toNat=49:=rfl
  rw[this]
  omega
 rcases h with ⟨_,h⟩ | ⟨h,_⟩
 ·rw[h,e];omega
 ·refine absurd ⟨by simp,by simp[two],?_,?_⟩ h
  ·rintro⟨_,h3⟩
   simp at h3
  ·intro x hx
   simp only[two,List.mem_cons,List.not_mem_nil,or_false] at hx
   unfold Vz
   rcases hx with rfl | rfl | rfl
   ·decide
   ·omega
   ·omega
theorem num_three {l:List UInt8} (hl:l.length=3) {v:Int} (h:NuP l v):v = -1 ∨ (0<=v/\v<1000):=by
 rcases h with ⟨hg,rfl⟩ | ⟨_,h⟩
 ·right
  have h1:=valN_lt l 3 (by omega) (fun x hx=>hg.2.2.2 x (List.mem_of_mem_take hx))
  rw[List.take_of_length_le (by omega)] at h1
  omega
 ·exact .inl h
theorem per_back (q:Per) (hq:okP q) (z:Int) (hz:z=((100+(zh q:Int))-100)*60+(100+(zm q:Int))-100) (p:Per) (h1:p.name=q.name) (h2:p.mail=q.mail) (h3:p.time=(q.time.toNat:Int)) (h4:zs q=45->p.zone = -z) (h5:zs q ≠ 45->p.zone=z):p=q:=by
 have k1:q.zone<0->p.zone = -z:=fun h=>h4 (by unfold zs;rw[if_pos h])
 have k2:¬ q.zone<0->p.zone=z:=fun h=>h5 (by unfold zs;rw[if_neg h];decide)
 clear h4 h5
 unfold zh zm at hz
 obtain⟨nm,ml,tm,zn⟩:=q
 obtain⟨a,b,c,d⟩:=p
 obtain⟨_,_,⟨t1,t2⟩,z1,z2⟩:=hq
 simp only at h1 h2 h3 hz k1 k2 t1 t2 z1 z2
 subst h1
 subst h2
 have e3:c=tm:=by omega
 have e4:d=zn:=by
  by_cases hn:zn<0
  ·rw[k1 hn];omega
  ·rw[k2 hn];omega
 rw[e3,e4]
end Go.Proofs.YticgindfipobiaaGreatDoor
