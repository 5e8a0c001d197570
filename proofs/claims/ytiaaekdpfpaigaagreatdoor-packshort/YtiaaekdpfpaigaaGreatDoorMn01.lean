import Derived.Test.YtiaaekdpfpaigaaGreatDoorProg
import Derived.Laws.BitsAllLaws
import Derived.WalkKit
import Derived.WalkSpells
import Derived.WalkLawsBesides
import Derived.Laws.CopyOwn
import Derived.Deep.QuietTactic
import Derived.BigQuiet
import Derived.Laws.IdiomCopy
import Derived.Below
set_option linter.unusedSimpArgs false
set_option linter.unusedVariables false
set_option maxRecDepth 20000
set_option maxHeartbeats 4000000
open Int renaming toNat_natCast->Wz0
open List renaming append_assoc->Wz1,append_nil->Wz2,cons_append->Wz3,dropLast_concat_getLast->Wz4,getElem_mem->Wz5,length_append->Wz6,length_cons->Wz7,length_drop->Wz8,length_pos_iff->Wz9,length_take->Wzz,mem_of_mem_drop->Wzq,nil_append->Wzx,singleton_append->Wzj,suffix_refl->Wzk,take_append_drop->Wzv,take_append_of_le_length->Wzw,take_left->Wzy,take_of_length_le->Wzu,take_take->WzZ
open Nat renaming add_assoc->WzQ,add_zero->WzX,div_div_eq_div_mul->WzJ,div_lt_iff_lt_mul->WzK,le_refl->WzV,lt_or_ge->WzW,min_eq_left->WzY,mul_zero->Wq0,pow_add->Wq1,pow_zero->Wq2,reduceAdd->Wq3,reduceMul->Wq4,reducePow->Wq5,strongRecOn->Wq6,zero_add->Wq7
open Option renaming bind_some->Wq8,some->Wq9
namespace Go.Proofs.YtiaaekdpfpaigaaGreatDoor
open Go.RowKit
theorem sL {α:Type} : (∀ (l:List α) (i:Nat) (v:α),l.toArray.setIfInBounds i v=(l.set i v).toArray)/\(∀ (l:List α) (a b:α),(a :: l).set 0 b=b :: l)/\(∀ (l:List α) (n:Nat) (a b:α),(a :: l).set (n+1) b=a :: l.set n b):=⟨fun l i v=>List.setIfInBounds_toArray ..,fun _ _ _=>rfl,fun _ _ _ _=>rfl⟩
theorem nm_ {α:Sort _} (a:α):∃ x,Hid (a=x):=⟨_,rfl⟩
theorem nn_ {α:Sort _} (a:α):∃ x,Hid (x=a):=⟨_,rfl⟩
end Go.Proofs.YtiaaekdpfpaigaaGreatDoor
namespace Go.Proofs.YtiaaekdpfpaigaaGreatDoor.Dl
open Go.RowKit
def At (w:World) (b off:Nat) (zs:List Int):Prop := ∀ i,i<zs.length->w.cell? ⟨b,off+i,none⟩=some (.int .u8 (zs.getD i 0))
def IsB (zs:List Int):Prop := ∀ x ∈ zs,0<=x/\x<=255
theorem IsB.get {zs:List Int} (h:IsB zs) (k:Nat):0<=zs[k]?.getD 0/\zs[k]?.getD 0<=255:=by
 by_cases hk:k<zs.length
 ·rw[List.getElem?_eq_getElem hk];exact h _ (Wz5 hk)
 rw[List.getElem?_eq_none (by omega)];simp
theorem IsB.at {zs:List Int} (h:IsB zs) (k:Nat) (hk:k<zs.length):0<=zs[k]/\zs[k]<=255:=h _ (Wz5 hk)
end Go.Proofs.YtiaaekdpfpaigaaGreatDoor.Dl
namespace Go.Proofs.YtiaaekdpfpaigaaGreatDoor.Dl.Plain
def U0:Nat->Nat->Nat->List Int->Option (Nat × List Int)
 | 0,_,_,_=>none
 | _+1,_,_,[]=>none
 | f+1,i,n,x :: r =>
  if x<128 then (if i=0 ∨ 0<x then some (n+(x % 128).toNat*2 ^ (7*i),r) else none)
  else U0 f (i+1) (n+(x % 128).toNat*2 ^ (7*i)) r
def sz (b:List Int):Option (Nat × List Int):=U0 5 0 0 b
def szs (b:List Int):Option (Nat × Nat × List Int) :=
 match sz b with
 | none=>none
 | some (n,r)=>match sz r with
  | none=>none
  | some (m,r2)=>some (n,m,r2)
def prt:Nat->Nat->Nat->Nat->Nat->List Int->Option (Nat × List Int)
 | 0,_,_,_,n,b=>some (n,b)
 | c+1,op,k,j,n,b =>
  if op / 2 ^ k % 2=0 then prt c op (k+1) (j+1) n b
  else if b=[] then none
  else prt c op (k+1) (j+1) (n+(b.getD 0 0).toNat*2 ^ (8*j)) (b.drop 1)
def cnt (c:Nat):Nat:=if c=0 then 65536 else c
def stp (base:List Int):List Int->Option (List Int × List Int)
 | []=>none
 | x :: r =>
  if x=0 then none
  else if x<128 then (if x.toNat<=r.length then some (r.take x.toNat,r.drop x.toNat) else none)
  else match prt 4 x.toNat 0 0 0 r with
   | none=>none
   | some (at_,r1)=>match prt 3 x.toNat 4 0 0 r1 with
    | none=>none
    | some (c,r2) =>
     if at_+cnt c<=base.length then some ((base.drop at_).take (cnt c),r2) else none
def Gq (base:List Int) (m:Nat):Nat->List Int->List Int->Option (List Int)
 | 0,_,_=>none
 | f+1,b,out =>
  if b=[] then (if out.length=m then some out else none)
  else match stp base b with
   | none=>none
   | some (c,r)=>if out.length+c.length<=m then Gq base m f r (out++c) else none
def app (base d:List Int):Option (List Int) :=
 match szs d with
 | none=>none
 | some (n,m,r)=>if n=base.length/\m<=100000 then Gq base m (r.length+1) r [] else none
theorem Ju:∀ (c op k j n:Nat) (b:List Int) (n':Nat) (r:List Int),prt c op k j n b=some (n',r)->r.length<=b.length
 | 0,op,k,j,n,b,n',r,h=>by simp[prt] at h;rw[h.2];exact WzV _
 | c+1,op,k,j,n,b,n',r,h=>by
  rw[prt] at h;split at h
  ·exact Ju c _ _ _ _ _ _ _ h
  split at h
  ·cases h
  have:=Ju c _ _ _ _ _ _ _ h;simp at this;omega
theorem Tu {base b c r:List Int} (h:stp base b=some (c,r)):r.length<b.length:=by
 cases b with
 | nil=>cases h
 | cons x t =>
  rw[stp] at h;split at h
  ·cases h
  split at h
  ·split at h
   ·simp at h;rw[<-h.2];simp;omega
   cases h
  split at h
  ·cases h
  rename_i a1 r1 e1;split at h
  ·cases h
  rename_i c2 r2 e2;have l1:=Ju _ _ _ _ _ _ _ _ e1;have l2:=Ju _ _ _ _ _ _ _ _ e2;split at h
  ·simp only[Wq9.injEq,Prod.mk.injEq] at h;rw[<-h.2];simp;omega
  cases h
theorem N7 (base:List Int) (m:Nat):∀ (f:Nat) (b out:List Int),b.length<f->Gq base m f b out=Gq base m (f+1) b out
 | 0,b,out,h=>by omega
 | f+1,b,out,h=>by
  rw[Gq,Gq];by_cases hb:b=[]
  ·rw[if_pos hb,if_pos hb]
  rw[if_neg hb,if_neg hb];cases e:stp base b with
  | none=>rfl
  | some cr =>
   obtain⟨c,r⟩:=cr;simp only;have:=Tu e;rw[N7 base m f r _ (by omega)]
theorem N8 (base:List Int) (m:Nat) (b out:List Int):∀ (k:Nat),Gq base m (b.length+1+k) b out=Gq base m (b.length+1) b out
 | 0=>rfl
 | k+1=>by rw[<-WzQ,<-N7 base m _ b out (by omega)];exact N8 base m b out k
def Z7 (base:List Int) (m:Nat) (b out:List Int):Option (List Int):=Gq base m (b.length+1) b out
theorem ZJ (base:List Int) (m:Nat) (b out:List Int):Z7 base m b out =
    if b=[] then (if out.length=m then some out else none)
    else match stp base b with
      | none=>none
      | some (c,r)=>if out.length+c.length<=m then Z7 base m r (out++c) else none:=by
  unfold Z7
  rw[Gq]
  by_cases hb:b=[]
  · rw[if_pos hb,if_pos hb]
  · rw[if_neg hb,if_neg hb]
    cases e:stp base b with
    | none=>rfl
    | some cr =>
      obtain⟨c,r⟩:=cr
      simp only
      have hl:=Tu e
      obtain⟨k,hk⟩:∃ k,b.length=r.length+1+k:=⟨b.length-(r.length+1),by omega⟩
      rw[hk,N8]
end Go.Proofs.YtiaaekdpfpaigaaGreatDoor.Dl.Plain
namespace Go.Proofs.YtiaaekdpfpaigaaGreatDoor.Dl.Sam
def rd (del:Nat->Int->Option Nat) (u:List Int):Option Nat:=u.foldl (fun o b=>o.bind (fun s=>del s b)) (some 0)
theorem rd_snoc (del:Nat->Int->Option Nat) (u:List Int) (b:Int):rd del (u++[b])=(rd del u).bind (fun s=>del s b):=by simp[rd,List.foldl_append]
theorem K6 {p:List Int->Prop} (h0:p []) (h1:∀ u b,p u->p (u++[b])) (u:List Int):p u:=by
 have:∀ n (u:List Int),u.length=n->p u:=by
  intro n;induction n with
  | zero=>intro u hu;rw[List.length_eq_zero_iff.1 hu];exact h0
  | succ n ih =>
   intro u hu;have hne:u ≠ []:=(by intro h;rw[h] at hu;simp at hu);rw[<-Wz4 hne];exact h1 _ _ (ih _ (by simp;omega))
 exact this _ u rfl
theorem u9 {u v:List Int} (h:u <:+ v) (b:Int):u++[b] <:+ v++[b]:=by
 obtain⟨p,rfl⟩:=h;exact⟨p,by simp⟩
theorem QX {u v:List Int} {a b:Int} (h:u++[a] <:+ v++[b]):a=b/\u <:+ v:=by
 obtain⟨p,hp⟩:=h;rw[<-Wz1] at hp;obtain⟨h1,h2⟩:=List.append_inj' hp rfl;exact⟨by simpa using h2,⟨p,h1⟩⟩
theorem Z0 {u v w:List Int} (h1:u <:+ w) (h2:v <:+ w) (hl:u.length<=v.length):u <:+ v:=List.suffix_of_suffix_length_le h1 h2 hl
theorem zq1 {u v w:List Int} {a b:Int} (h1:u++[a] <:+ w) (h2:v++[b] <:+ w):a=b:=by
 rcases Nat.le_total (u++[a]).length (v++[b]).length with h | h
 ·exact(QX (Z0 h1 h2 h)).1
 exact(QX (Z0 h2 h1 h)).1.symm
theorem Eu {u t:List Int} {c:Int} (h:u <:+ t++[c]) (h0:0<u.length):∃ v,u=v++[c]/\v <:+ t:=by
 have hne:u ≠ []:=by intro h;rw[h] at h0;simp at h0
 have e:=Wz4 hne;rw[<-e] at h;obtain⟨h1,h2⟩:=QX h;exact⟨_,by rw[<-e,h1];simp,h2⟩
def Up (wd:Nat->List Int) (sh:Nat->Option Nat) (q:Nat) (u:List Int):Prop := ∀ p,sh q=some p->(wd p).length<u.length
structure Sam (t:List Int) (N:Nat) (wd:Nat->List Int) (sh:Nat->Option Nat) (en:Nat->Nat) (del:Nat->Int->Option Nat) (last:Nat):Prop where
 pos:0<N
 wd0:wd 0=[]
 sh0:sh 0=none
 en0:en 0=0
 ends:∀ s,s<N->en s<=t.length/\wd s <:+ t.take (en s)
 link:∀ s,s<N->s ≠ 0->∃ p,sh s=some p/\p<N/\(wd p).length<(wd s).length/\wd p <:+ wd s
 edge:∀ s b q,s<N->del s b=some q->q<N/\wd s++[b] <:+ wd q
 read:∀ q,q<N->∀ u,u <:+ wd q->Up wd sh q u->rd del u=some q
 lastN:last<N
 lastw:wd last=t
 pref:∀ e,e<=t.length->∃ q,q<N/\wd q=t.take e
theorem zuJ:Sam [] 1 (fun _=>[]) (fun _=>none) (fun _=>0) (fun _ _=>none) 0 where
 pos:=by omega
 wd0:=rfl
 sh0:=rfl
 en0:=rfl
 ends:=fun s _=>⟨WzV _,Wzk _⟩
 link:=fun s h1 h2=>by omega
 edge:=fun s b q _ h=>by cases h
 read:=fun q hq u hu _=>by
  obtain rfl:q=0:=by omega
  rw[List.suffix_nil.1 hu];rfl
 lastN:=by omega
 lastw:=rfl
 pref:=fun e he=>⟨0,by omega,by simp⟩
section
variable {t : List Int} {N : Nat} {wd : Nat → List Int} {sh : Nat → Option Nat} {en : Nat → Nat} {del : Nat → Int → Option Nat} {last : Nat}
theorem Sam.sound (A:Sam t N wd sh en del last) (u:List Int):∀ s,rd del u=some s->s<N/\u <:+ wd s:=by
 induction u using K6 with
 | h0=>intro s h;cases h;exact⟨A.pos,List.nil_suffix⟩
 | h1 u b ih =>
  intro s h;rw[rd_snoc] at h;cases e:rd del u with
  | none=>rw[e] at h;cases h
  | some s1 =>
   rw[e] at h;obtain⟨h1,h2⟩:=ih s1 e;obtain⟨h3,h4⟩:=A.edge s1 b s h1 h;exact⟨h3,(u9 h2 b).trans h4⟩
theorem Sam.len_le (A:Sam t N wd sh en del last) {s:Nat} (h:s<N):(wd s).length<=en s/\(wd s).length<=t.length:=by
 obtain⟨h1,h2⟩:=A.ends s h;have:=h2.length_le;rw[Wzz] at this;omega
theorem Sam.up_self (A:Sam t N wd sh en del last) {s:Nat} (h:s<N):Up wd sh s (wd s):=by
 intro p hp;by_cases h0:s=0
 ·rw[h0,A.sh0] at hp;cases hp
 obtain⟨p',h1,_,h3,_⟩:=A.link s h h0;rw[hp] at h1;cases h1;exact h3
theorem Sam.read_wd (A:Sam t N wd sh en del last) {s:Nat} (h:s<N):rd del (wd s)=some s:=A.read s h _ (Wzk _) (A.up_self h)
theorem Sam.sh_some (A:Sam t N wd sh en del last) {s p:Nat} (h:s<N) (hp:sh s=some p):p<N/\(wd p).length<(wd s).length/\wd p <:+ wd s:=by
 by_cases h0:s=0
 ·rw[h0,A.sh0] at hp;cases hp
 obtain⟨p',h1,h2,h3,h4⟩:=A.link s h h0;rw[hp] at h1;cases h1;exact⟨h2,h3,h4⟩
theorem Sam.chain (A:Sam t N wd sh en del last):∀ (n s:Nat) (u:List Int),(wd s).length=n->s<N->u <:+ wd s->∃ q,rd del u=some q/\q<N/\wd q <:+ wd s/\u <:+ wd q:=by
 intro n;induction n using Wq6 with
 | _ n ih =>
  intro s u hn hs hu;by_cases hup:Up wd sh s u
  ·exact⟨s,A.read s hs u hu hup,hs,Wzk _,hu⟩
  simp only[Up,Classical.not_forall,Nat.not_lt] at hup;obtain⟨p,hp,hl⟩:=hup;obtain⟨h1,h2,h3⟩:=A.sh_some hs hp;obtain⟨q,g1,g2,g3,g4⟩:=ih _ (by omega) p u rfl h1 (Z0 hu h3 hl);exact⟨q,g1,g2,g3.trans h3,g4⟩
theorem Sam.chain' (A:Sam t N wd sh en del last) {s:Nat} {u:List Int} (hs:s<N) (hu:u <:+ wd s):∃ q,rd del u=some q/\q<N/\wd q <:+ wd s/\u <:+ wd q:=A.chain _ s u rfl hs hu
theorem Sam.gap (A:Sam t N wd sh en del last) {p x:Nat} (hp:p<N) (hx:x<N) (h:wd x <:+ wd p) (hu:∀ p',sh p=some p'->(wd p').length<(wd x).length):x=p:=by
 have h1:=A.read_wd hx;rw[A.read p hp _ h hu] at h1;exact(Wq9.inj h1).symm
theorem Sam.lk (A:Sam t N wd sh en del last) {y to:Nat} {c:Int} (hy:y<N) (h:del y c=some to) {r:Nat} (hr:sh to=some r):(wd r).length<=(wd y).length:=by
 obtain⟨h1,h2⟩:=A.edge y c to hy h;obtain⟨h3,h4,h5⟩:=A.sh_some h1 hr;rcases WzW (wd y).length (wd r).length with hl | hl
 ·obtain⟨q,g1,g2,g3,_⟩:=A.chain' h3 (Z0 h2 h5 (by simp;omega));rw[rd_snoc,A.read_wd hy] at g1;simp only[Wq8] at g1;rw[h] at g1;cases g1
  have:=g3.length_le;omega
 exact hl
theorem Sam.all (A:Sam t N wd sh en del last) (a u b:List Int) (h:t=a++u++b):∃ q,rd del u=some q:=by
 obtain⟨q,h1,h2⟩:=A.pref (a.length+u.length) (by rw[h];simp);have h3:u <:+ wd q:=by rw[h2,h,show a.length+u.length=(a++u).length by simp,Wzy];exact List.suffix_append _ _
 obtain⟨q',g,_⟩:=A.chain' h1 h3;exact⟨q',g⟩
theorem Sam.stands (A:Sam t N wd sh en del last) {u:List Int} {s:Nat} (h:rd del u=some s):u.length<=en s/\en s<=t.length/\(t.drop (en s-u.length)).take u.length=u:=by
 obtain⟨h1,h2⟩:=A.sound u s h;obtain⟨h3,h4⟩:=A.ends s h1;have h5:=h2.trans h4;have h6:=h5.length_le;rw[Wzz] at h6;refine⟨by omega,h3,?_⟩;have h7:=List.suffix_iff_eq_drop.1 h5;rw[Wzz,WzY h3] at h7;rw[List.drop_take,show en s-(en s-u.length)=u.length by omega] at h7;exact h7.symm
def L1 (t:List Int) (N:Nat) (wd:Nat->List Int) (del:Nat->Int->Option Nat) (c:Int) (k:Nat):Prop := ∀ x,x<N->wd x <:+ t->k<=(wd x).length->del x c=none
theorem Sam.l1_start (A:Sam t N wd sh en del last) (c:Int):L1 t N wd del c (t.length+1):=fun x hx h hl=>by
 have:=h.length_le;omega
theorem Sam.l1_or (A:Sam t N wd sh en del last) {p x k:Nat} (hp:p<N) (hpt:wd p <:+ t) (hk:∀ p',sh p=some p'->k=(wd p').length+1) (hx:x<N) (hxt:wd x <:+ t) (hl:k<=(wd x).length):(wd p).length+1<=(wd x).length ∨ x=p:=by
 rcases WzW (wd p).length (wd x).length with h | h
 ·exact .inl h
 exact .inr (A.gap hp hx (Z0 hxt hpt h) (fun p' e=>by have:=hk p' e;omega))
theorem Sam.l1_step (A:Sam t N wd sh en del last) {c:Int} {p k:Nat} (hp:p<N) (hpt:wd p <:+ t) (hk:∀ p',sh p=some p'->k=(wd p').length+1) (h:L1 t N wd del c ((wd p).length+1)) (hn:del p c=none):L1 t N wd del c k:=fun x hx hxt hl=>by
 rcases A.l1_or hp hpt hk hx hxt hl with h1 | rfl
 ·exact h x hx hxt h1
 exact hn
theorem Sam.last_none (A:Sam t N wd sh en del last) (c:Int) {p:Nat} (hp:p<N) (h:(wd p).length=t.length):del p c=none:=by
 cases e:del p c with
 | none=>rfl
 | some q =>
  obtain⟨h1,h2⟩:=A.edge p c q hp e;have h3:=h2.length_le;have h4:=(A.len_le h1).2;simp at h3;omega
theorem zuK {N:Nat} {t wd sh en last} {del del':Nat->Int->Option Nat} (A:Sam t N wd sh en del last) (h:∀ x b s,x<N->del x b=some s->del' x b=some s) (u:List Int):∀ s,rd del u=some s->rd del' u=some s:=by
 induction u using K6 with
 | h0=>exact fun s h=>h
 | h1 u b ih =>
  intro s hs;rw[rd_snoc] at hs ⊢;cases e:rd del u with
  | none=>rw[e] at hs;cases hs
  | some s1 =>
   rw[e] at hs;rw[ih s1 e];exact h s1 b s (A.sound u s1 e).1 hs
theorem Sam.add1 (A:Sam t N wd sh en del last) {c:Int} {k r:Nat} {wd':Nat->List Int} {sh':Nat->Option Nat} {en':Nat->Nat} {del':Nat->Int->Option Nat}
  (hL:L1 t N wd del c k) (hr:r<N) (hrt:wd r <:+ t++[c]) (hrl:(wd r).length<=t.length) (hkr:k<=(wd r).length)
  (d1:∀ x,x<N->wd x <:+ t->k<=(wd x).length->del' x c=some N)
  (d2:∀ x b,x<N->¬ (b=c/\wd x <:+ t/\k<=(wd x).length)->del' x b=del x b)
  (d3:∀ b,del' N b=none)
  (w1:∀ s,s<N->wd' s=wd s) (w2:wd' N=t++[c]) (s1:∀ s,s<N->sh' s=sh s) (s2:sh' N=some r) (e1:∀ s,s<N->en' s=en s) (e2:en' N=t.length+1) :
  Sam (t++[c]) (N+1) wd' sh' en' del' N:=by
 have hm:∀ u s,rd del u=some s->rd del' u=some s:=zuK A (fun x b s hx h=>by
  rw[d2 x b hx ?_];exact h;rintro⟨rfl,g1,g2⟩;rw[hL x hx g1 g2] at h;cases h)
 have hup:∀ q u,q<N->Up wd' sh' q u->Up wd sh q u:=fun q u hq h p hp=>by
  have:=h p (by rw[s1 q hq];exact hp);rwa [w1 p (A.sh_some hq hp).1] at this
 constructor
 ·omega
 ·rw[w1 0 A.pos];exact A.wd0
 ·rw[s1 0 A.pos];exact A.sh0
 ·rw[e1 0 A.pos];exact A.en0
 ·intro s hs;by_cases hN:s<N
  ·obtain⟨h1,h2⟩:=A.ends s hN;rw[e1 s hN,w1 s hN,Wzw h1];exact⟨by simp;omega,h2⟩
  obtain rfl:s=N:=by omega
  rw[e2,w2];exact⟨by simp,by rw[Wzu (by simp)];exact Wzk _⟩
 ·intro s hs h0;by_cases hN:s<N
  ·obtain⟨p,h1,h2,h3,h4⟩:=A.link s hN h0;exact⟨p,by rw[s1 s hN];exact h1,by omega,by rw[w1 s hN,w1 p h2];exact h3,by rw[w1 s hN,w1 p h2];exact h4⟩
  obtain rfl:s=N:=by omega
  exact⟨r,s2,by omega,by rw[w1 r hr,w2];simp;omega,by rw[w1 r hr,w2];exact hrt⟩
 ·intro s b q hs h;by_cases hN:s<N
  ·by_cases hc:b=c/\wd s <:+ t/\k<=(wd s).length
   ·obtain⟨rfl,g1,g2⟩:=hc;rw[d1 s hN g1 g2] at h;cases h
    exact⟨by omega,by rw[w1 s hN,w2];exact u9 g1 _⟩
   rw[d2 s b hN hc] at h;obtain⟨g1,g2⟩:=A.edge s b q hN h;exact⟨by omega,by rw[w1 s hN,w1 q g1];exact g2⟩
  obtain rfl:s=N:=by omega
  rw[d3] at h;cases h
 ·intro q hq u hu hU;by_cases hN:q<N
  ·rw[w1 q hN] at hu;exact hm u q (A.read q hN u hu (hup q u hN hU))
  obtain rfl:q=N:=by omega
  rw[w2] at hu;have hl:=hU r s2;rw[w1 r hr] at hl;obtain⟨v,rfl,hv⟩:=Eu hu (by omega);rw[<-A.lastw] at hv;obtain⟨s,g1,g2,g3,g4⟩:=A.chain' A.lastN hv;rw[A.lastw] at g3;have:=g4.length_le;simp at hl;rw[rd_snoc,hm v s g1];exact d1 s g2 g3 (by omega)
 ·omega
 ·exact w2
 intro e he;by_cases hl:e<=t.length
 ·obtain⟨q,h1,h2⟩:=A.pref e hl;exact⟨q,by omega,by rw[w1 q h1,h2,Wzw hl]⟩
 exact⟨N,by omega,by rw[w2,Wzu (by simp;omega)]⟩
theorem Sam.add2 (A:Sam t N wd sh en del last) {c:Int} {p to:Nat} {wd':Nat->List Int} {sh':Nat->Option Nat} {en':Nat->Nat} {del':Nat->Int->Option Nat}
  (hp:p<N) (hpt:wd p <:+ t) (hto:del p c=some to) (hlt:(wd p).length+1<(wd to).length)
  (hL:L1 t N wd del c ((wd p).length+1))
  (d1:∀ x,x<N->wd x <:+ t->(wd p).length<(wd x).length->del' x c=some N)
  (d2:∀ x,x<N->del x c=some to->(wd x).length<=(wd p).length->del' x c=some (N+1))
  (d3:∀ x b,x<N->¬ (b=c/\wd x <:+ t/\(wd p).length<(wd x).length)->¬ (b=c/\del x c=some to/\(wd x).length<=(wd p).length)->del' x b=del x b)
  (d4:∀ b,del' N b=none) (d5:wd to <:+ t->del' (N+1) c=some N) (d6:∀ b,¬ (b=c/\wd to <:+ t)->del' (N+1) b=del to b)
  (w1:∀ s,s<N->wd' s=wd s) (w2:wd' N=t++[c]) (w3:wd' (N+1)=wd p++[c])
  (s1:∀ s,s<N->s ≠ to->sh' s=sh s) (s2:sh' N=some (N+1)) (s3:sh' (N+1)=sh to) (s4:sh' to=some (N+1))
  (e1:∀ s,s<N->en' s=en s) (e2:en' N=t.length+1) (e3:en' (N+1)=en to) :
  Sam (t++[c]) (N+2) wd' sh' en' del' N:=by
 obtain⟨htN,htw⟩:=A.edge p c to hp hto;have ht0:to ≠ 0:=by intro h;rw[h,A.wd0] at hlt;simp at hlt
 obtain⟨r,hr1,hr2,hr3,hr4⟩:=A.link to htN ht0;have hrp:=A.lk hp hto hr1;have hpl:=hpt.length_le;have hpl':(wd p).length<t.length:=by
  rcases WzW (wd p).length t.length with h | h
  ·exact h
  rw[A.last_none c hp (by omega)] at hto;cases hto
 have hw3l:(wd' (N+1)).length=(wd p).length+1:=by rw[w3];simp
 have F3:∀ u q,rd del u=some q->(q ≠ to->rd del' u=some q)/\(q=to->(u.length<=(wd p).length+1->rd del' u=some (N+1))/\((wd p).length+1<u.length->rd del' u=some to)):=by
  intro u;induction u using K6 with
  | h0=>intro q h;cases h;exact⟨fun _=>rfl,fun h=>absurd h.symm ht0⟩
  | h1 v b ih =>
   intro q h;rw[rd_snoc] at h;cases e:rd del v with
   | none=>rw[e] at h;cases h
   | some s =>
    rw[e] at h;simp only[Wq8] at h;obtain⟨hsN,hvs⟩:=A.sound v s e;obtain⟨hqN,hsq⟩:=A.edge s b q hsN h;have hc1:¬ (b=c/\wd s <:+ t/\(wd p).length<(wd s).length):=by
     rintro⟨rfl,g1,g2⟩;rw[hL s hsN g1 g2] at h;cases h
    by_cases hs:s=to
    ·subst hs;have hne:q ≠ s:=(by intro hq;subst hq;have:=hsq.length_le;simp at this;omega);refine⟨fun _=>?_,fun hq=>absurd hq hne⟩;rw[rd_snoc];rcases WzW ((wd p).length+1) v.length with hl | hl
     ·rw[((ih s e).2 rfl).2 hl];simp only[Wq8];rw[d3 s b hsN hc1 (by
       rintro⟨rfl,g1,g2⟩;omega)]
      exact h
     rw[((ih s e).2 rfl).1 hl];simp only[Wq8];rw[d6 b (by
      rintro⟨rfl,g1⟩;exact hc1 ⟨rfl,g1,by omega⟩)]
     exact h
    rw[rd_snoc,(ih s e).1 hs];simp only[Wq8];by_cases hq:q=to
    ·subst hq;obtain rfl:b=c:=zq1 hsq htw;refine⟨fun h=>absurd rfl h,fun _=>⟨fun hl=>?_,fun hl=>?_⟩⟩
     ·have hl':v.length<=(wd p).length:=(by simp at hl;omega);have hvt:v++[b] <:+ wd q:=(u9 hvs b).trans hsq;have hvp:v <:+ wd p:=(QX (Z0 hvt htw (by simp;omega))).2;obtain⟨q2,g1,g2,g3,_⟩:=A.chain' hp hvp;rw[e] at g1;cases g1
      exact d2 s hsN h g3.length_le
     have:=hvs.length_le;simp at hl;rw[d3 s b hsN hc1 (by rintro⟨_,_,g2⟩;omega)];exact h
    refine⟨fun _=>?_,fun h=>absurd h hq⟩;rw[d3 s b hsN hc1 (by
     rintro⟨rfl,g1,_⟩;rw[h] at g1;cases g1;exact hq rfl)]
    exact h
 have hup:∀ q u,q<N->q ≠ to->Up wd' sh' q u->Up wd sh q u:=fun q u hq hqt h x hx=>by
  have:=h x (by rw[s1 q hq hqt];exact hx);rwa [w1 x (A.sh_some hq hx).1] at this
 have hput:wd p++[c] <:+ t++[c]:=u9 hpt c;have htN1:wd' to=wd to:=w1 to htN;constructor
 ·omega
 ·rw[w1 0 A.pos];exact A.wd0
 ·rw[s1 0 A.pos (Ne.symm ht0)];exact A.sh0
 ·rw[e1 0 A.pos];exact A.en0
 ·intro s hs;by_cases hN:s<N
  ·obtain⟨h1,h2⟩:=A.ends s hN;rw[e1 s hN,w1 s hN,Wzw h1];exact⟨by simp;omega,h2⟩
  by_cases hN1:s=N
  ·subst hN1;rw[e2,w2];exact⟨by simp,by rw[Wzu (by simp)];exact Wzk _⟩
  obtain rfl:s=N+1:=by omega
  obtain⟨h1,h2⟩:=A.ends to htN;rw[e3,w3,Wzw h1];exact⟨by simp;omega,htw.trans h2⟩
 ·intro s hs h0;by_cases hN:s<N
  ·by_cases hst:s=to
   ·subst hst;exact⟨N+1,s4,by omega,by rw[hw3l,htN1];exact hlt,by rw[w3,htN1];exact htw⟩
   obtain⟨x,h1,h2,h3,h4⟩:=A.link s hN h0;exact⟨x,by rw[s1 s hN hst];exact h1,by omega,by rw[w1 s hN,w1 x h2];exact h3,by rw[w1 s hN,w1 x h2];exact h4⟩
  by_cases hN1:s=N
  ·subst hN1;exact⟨s+1,s2,by omega,by rw[hw3l,w2];simp;omega,by rw[w3,w2];exact hput⟩
  obtain rfl:s=N+1:=by omega
  exact⟨r,by rw[s3];exact hr1,by omega,by rw[w1 r hr2,hw3l];omega,by rw[w1 r hr2,w3];exact Z0 hr4 htw (by simp;omega)⟩
 ·intro s b q hs h;by_cases hN:s<N
  ·rw[w1 s hN];by_cases hc:b=c/\wd s <:+ t/\(wd p).length<(wd s).length
   ·obtain⟨rfl,g1,g2⟩:=hc;rw[d1 s hN g1 g2] at h;cases h
    exact⟨by omega,by rw[w2];exact u9 g1 _⟩
   by_cases hc2:b=c/\del s c=some to/\(wd s).length<=(wd p).length
   ·obtain⟨rfl,g1,g2⟩:=hc2;rw[d2 s hN g1 g2] at h;cases h
    exact⟨by omega,by rw[w3];exact Z0 (A.edge s b to hN g1).2 htw (by simp;omega)⟩
   rw[d3 s b hN hc hc2] at h;obtain⟨g1,g2⟩:=A.edge s b q hN h;exact⟨by omega,by rw[w1 q g1];exact g2⟩
  by_cases hN1:s=N
  ·subst hN1;rw[d4] at h;cases h
  obtain rfl:s=N+1:=by omega
  rw[w3];by_cases hc:b=c/\wd to <:+ t
  ·obtain⟨rfl,g1⟩:=hc;rw[d5 g1] at h;cases h
   exact⟨by omega,by rw[w2];exact u9 (htw.trans g1) _⟩
  rw[d6 b hc] at h;obtain⟨g1,g2⟩:=A.edge to b q htN h;exact⟨by omega,by rw[w1 q g1];exact(u9 htw b).trans g2⟩
 ·intro q hq u hu hU;by_cases hN:q<N
  ·rw[w1 q hN] at hu;by_cases hqt:q=to
   ·subst hqt;have hl:=hU (N+1) s4;rw[hw3l] at hl;exact((F3 u q (A.read q hN u hu (fun x hx=>by rw[hr1] at hx;cases hx;omega))).2 rfl).2 hl
   exact(F3 u q (A.read q hN u hu (hup q u hN hqt hU))).1 hqt
  by_cases hN1:q=N
  ·subst hN1;rw[w2] at hu;have hl:=hU (q+1) s2;rw[hw3l] at hl;obtain⟨v,rfl,hv⟩:=Eu hu (by omega);rw[<-A.lastw] at hv;obtain⟨s,g1,g2,g3,g4⟩:=A.chain' A.lastN hv;rw[A.lastw] at g3;have hvl:=g4.length_le;simp at hl;rw[rd_snoc];by_cases hst:s=to
   ·subst hst;rcases WzW ((wd p).length+1) v.length with hl2 | hl2
    ·rw[((F3 v s g1).2 rfl).2 hl2];exact d1 s g2 g3 (by omega)
    rw[((F3 v s g1).2 rfl).1 hl2];exact d5 g3
   rw[(F3 v s g1).1 hst];exact d1 s g2 g3 (by omega)
  obtain rfl:q=N+1:=by omega
  rw[w3] at hu;have hul:=hu.length_le;have hl:=hU r (by rw[s3];exact hr1);rw[w1 r hr2] at hl;refine((F3 u to (A.read to htN u (hu.trans htw) (fun x hx=>by rw[hr1] at hx;cases hx;exact hl))).2 rfl).1 ?_;simpa using hul
 ·omega
 ·exact w2
 intro e he;by_cases hl:e<=t.length
 ·obtain⟨q,h1,h2⟩:=A.pref e hl;exact⟨q,by omega,by rw[w1 q h1,h2,Wzw hl]⟩
 exact⟨N,by omega,by rw[w2,Wzu (by simp;omega)]⟩
theorem Sam.contig (A:Sam t N wd sh en del last) {c:Int} {p to x y:Nat} (hp:p<N) (hto:del p c=some to) (hy:y<N) (hyt:del y c=some to) (hx:x<N) (hxp:wd x <:+ wd p) (hl:(wd y).length<=(wd x).length):del x c=some to:=by
 obtain⟨h1,h2⟩:=A.edge p c to hp hto;have h3:=A.read to h1 (wd x++[c]) ((u9 hxp c).trans h2) (fun r hr=>by have:=A.lk hy hyt hr;simp;omega);rw[rd_snoc,A.read_wd hx] at h3;exact h3
theorem Sam.lead_or (A:Sam t N wd sh en del last) {c:Int} {p to x y:Nat} (hp:p<N) (hto:del p c=some to) (hx:x<N) (hxp:wd x <:+ wd p) (hy:y<N) (hyt:del y c=some to) (hl:(wd y).length<=(wd x).length) :
  y=x ∨ ∃ x',sh x=some x'/\(wd y).length<=(wd x').length:=by
 have h1:=(A.edge p c to hp hto).2;have h2:=(A.edge y c to hy hyt).2;have h3:=hxp.length_le;have h4:wd y <:+ wd p:=(QX (Z0 h2 h1 (by simp;omega))).2;have h5:wd y <:+ wd x:=Z0 h4 hxp hl;cases e:sh x with
 | none=>exact .inl (A.gap hx hy h5 (fun p' hp'=>by rw[e] at hp';cases hp'))
 | some x' =>
  rcases WzW (wd x').length (wd y).length with h | h
  ·exact .inl (A.gap hx hy h5 (fun p' hp'=>by rw[e] at hp';cases hp';exact h))
  exact .inr ⟨x',rfl,h⟩
end
end Go.Proofs.YtiaaekdpfpaigaaGreatDoor.Dl.Sam
namespace Go.Proofs.YtiaaekdpfpaigaaGreatDoor.Dl.Plain
def wsz:Nat->Nat->List Int
 | 0,n=>[(n:Int)]
 | f+1,n=>if n<128 then [(n:Int)] else ((n % 128+128:Nat):Int) :: wsz f (n / 128)
def szw (n:Nat):List Int:=wsz 5 n
theorem EZ:∀ (f n:Nat),n<2 ^ (7*f+7)->(wsz f n).length<=f+1
 | 0,n,_=>by simp[wsz]
 | f+1,n,h=>by
  rw[wsz];split
  ·simp
  rw[Wz7];have:n / 128<2 ^ (7*f+7):=by
   rw[WzK (by omega)];rw[show 7*(f+1)+7=(7*f+7)+7 by omega,Wq1] at h;exact h
  have:=EZ f (n / 128) this;omega
theorem P7:∀ (f i n a:Nat) (rest:List Int),n<2 ^ (7*f+7)->(0<i->0<n)->U0 (f+1) i a (wsz f n++rest)=some (a+n*2 ^ (7*i),rest)
 | 0,i,n,a,rest,h,h0=>by
  have hn:n<128:=h
  rw[wsz,Wzj,U0,if_pos (by omega),if_pos (by omega)]
  rw[show ((n:Int) % 128).toNat=n by omega]
 | f+1,i,n,a,rest,h,h0=>by
  rw[wsz]
  by_cases hn:n<128
  ·rw[if_pos hn,Wzj,U0,if_pos (by omega),if_pos (by omega)]
   rw[show ((n:Int) % 128).toNat=n by omega]
  ·rw[if_neg hn,Wz3,U0,if_neg (by omega)]
   have h1:n / 128<2 ^ (7*f+7):=by
    rw[WzK (by omega)]
    rw[show 7*(f+1)+7=(7*f+7)+7 by omega,Wq1] at h
    exact h
   rw[P7 f (i+1) (n / 128) _ rest h1 (by omega)]
   rw[show (((n % 128+128:Nat):Int) % 128).toNat=n % 128 by omega]
   congr 2
   rw[show 7*(i+1)=7+7*i by omega,Wq1,WzQ,<-Nat.mul_assoc,<-Nat.add_mul]
   congr 2
   omega
theorem QJ (f n:Nat):wsz (f+1) n=if n<128 then [(n:Int)] else ((n % 128+128:Nat):Int) :: wsz f (n / 128):=rfl
theorem zq2 {n:Nat} (h:n<2 ^ 35):wsz 5 n=wsz 4 n:=by
 have key:∀ (f n:Nat),n<2 ^ (7*f+7)->wsz (f+1) n=wsz f n:=by
  intro f;induction f with
  | zero=>intro n h;rw[QJ,if_pos h];rfl
  | succ f ih =>
   intro n h;rw[QJ (f+1) n,QJ f n];split
   ·rfl
   rw[ih (n / 128)];rw[WzK (by omega)];rw[show 7*(f+1)+7=(7*f+7)+7 by omega,Wq1] at h;exact h
 exact key 4 n h
theorem zq3 {n:Nat} (h:n<34359738368) (rest:List Int):sz (szw n++rest)=some (n,rest):=by
 unfold sz szw;rw[zq2 h,P7 4 0 n 0 rest h (by omega)];simp
def byt (place i:Nat):Nat:=place / 2 ^ (8*i) % 256
def msk (place:Nat):Nat->Nat
 | 0=>0
 | i+1=>msk place i+(if byt place i=0 then 0 else 2 ^ i)
def byl (place:Nat):Nat->List Int
 | 0=>[]
 | i+1=>byl place i++(if byt place i=0 then [] else [(byt place i:Int)])
def xY (place i:Nat):List Int:=((128+msk place i:Nat):Int) :: byl place i
def cpy (at_ len:Nat):List Int:=xY (at_+len*4294967296) 7
theorem TZ (place:Nat):∀ i,msk place i<2 ^ i
 | 0=>by simp[msk]
 | i+1=>by
  have:=TZ place i;rw[msk,Nat.pow_succ];split <;> omega
theorem EQ (place:Nat):∀ i,(byl place i).length<=i
 | 0=>by simp[byl]
 | i+1=>by
  have:=EQ place i;rw[byl,Wz6];split <;> simp <;> omega
def fl (B:Nat->Nat):Nat->Nat->List Int
 | _,0=>[]
 | k,c+1=>(if B k=0 then [] else [(B k:Int)])++fl B (k+1) c
def vl (B:Nat->Nat):Nat->Nat->Nat->Nat
 | _,_,0=>0
 | k,j,c+1=>B k*2 ^ (8*j)+vl B (k+1) (j+1) c
theorem TQ (B:Nat->Nat):∀ (c k d:Nat),fl B k (c+d)=fl B k c++fl B (k+c) d
 | 0,k,d=>by simp[fl]
 | c+1,k,d=>by
  rw[show c+1+d=(c+d)+1 by omega,fl,fl,TQ B c (k+1) d,Wz1,show k+1+c=k+(c+1) by omega]
theorem CW (B:Nat->Nat) (op:Nat):∀ (c k j n:Nat) (rest:List Int),(∀ i,i<c->op / 2 ^ (k+i) % 2=if B (k+i)=0 then 0 else 1)->prt c op k j n (fl B k c++rest)=some (n+vl B k j c,rest)
 | 0,k,j,n,rest,_=>by simp[prt,fl,vl]
 | c+1,k,j,n,rest,h=>by
  have h0:=h 0 (by omega);rw[WzX] at h0;have ih:=fun n=>CW B op c (k+1) (j+1) n rest (fun i hi=>by have:=h (i+1) (by omega);rwa [show k+(i+1)=k+1+i by omega] at this);rw[prt,fl,vl];by_cases hb:B k=0
  ·rw[if_pos hb] at h0;rw[if_pos h0,if_pos hb,Wzx,ih,hb];simp
  rw[if_neg hb] at h0;rw[if_neg (by omega),if_neg hb,if_neg (by simp)];show prt c op (k+1) (j+1) (n+((B k:Int)).toNat*2 ^ (8*j)) (fl B (k+1) c++rest)=_;rw[Wz0,ih,WzQ]
theorem CY (place:Nat):byl place 7=fl (byt place) 0 7:=by
 simp only[byl,fl,Wz1,Wzx,Wz2]
theorem zq4 (place k:Nat) (hk:k<7):(128+msk place 7) / 2 ^ k % 2=if byt place k=0 then 0 else 1:=by
 have e:∀ i,∃ z,(if byt place i=0 then 0 else 2 ^ i)=z*2 ^ i/\z<=1/\(if byt place i=0 then 0 else 1)=z:=by
  intro i;by_cases h:byt place i=0
  ·exact⟨0,by simp[h],by omega,by simp[h]⟩
  exact⟨1,by simp[h],by omega,by simp[h]⟩
 obtain⟨z0,a0,b0,c0⟩:=e 0;obtain⟨z1,a1,b1,c1⟩:=e 1;obtain⟨z2,a2,b2,c2⟩:=e 2;obtain⟨z3,a3,b3,c3⟩:=e 3;obtain⟨z4,a4,b4,c4⟩:=e 4;obtain⟨z5,a5,b5,c5⟩:=e 5;obtain⟨z6,a6,b6,c6⟩:=e 6;simp only[msk];rw[a0,a1,a2,a3,a4,a5,a6];have hc:k=0 ∨ k=1 ∨ k=2 ∨ k=3 ∨ k=4 ∨ k=5 ∨ k=6:=by omega
 rcases hc with rfl | rfl | rfl | rfl | rfl | rfl | rfl
 ·rw[c0];omega
 ·rw[c1];omega
 ·rw[c2];omega
 ·rw[c3];omega
 ·rw[c4];omega
 ·rw[c5];omega
 rw[c6];omega
theorem low4 (place a len:Nat) (h:a+len*4294967296=place) (ha:a<16777216):0+vl (byt place) 0 0 4=a:=by
 simp only[vl,byt];simp only[Wq7,Wq0,Wq2,Nat.div_one,Wq4,Wq3,Wq5,Nat.mul_one,WzX];have e1:place % 256=a % 256:=by omega
 have e2:place / 256 % 256=a / 256 % 256:=by omega
 have e3:place / 65536 % 256=a / 65536 % 256:=by omega
 have e4:place / 16777216 % 256=0:=by omega
 rw[e1,e2,e3,e4];omega
theorem high3 (place a len:Nat) (h:a+len*4294967296=place) (ha:a<16777216) (hl:len<16777216):0+vl (byt place) 4 0 3=len:=by
 have e0:place / 4294967296=len:=by omega
 have e1:place / 1099511627776=len / 256:=by rw[show (1099511627776:Nat)=4294967296*256 by omega,<-WzJ,e0]
 have e2:place / 281474976710656=len / 65536:=by rw[show (281474976710656:Nat)=4294967296*65536 by omega,<-WzJ,e0]
 simp only[vl,byt];simp only[Wq7,Wq0,Wq2,Wq4,Wq3,Wq5,Nat.mul_one,WzX];rw[e0,e1,e2];clear e0 e1 e2 h;omega
theorem zq5 (base:List Int) (at_ len:Nat) (rest:List Int) (h1:at_+len<=base.length) (h2:0<len) (h3:base.length<16777216) (place:Nat) (hp:at_+len*4294967296=place):stp base (xY place 7++rest)=some ((base.drop at_).take len,rest):=by
 unfold xY;have hm:=TZ place 7;have hbt:=zq4 place;have v1:=low4 place at_ len hp (by omega);have v2:=high3 place at_ len hp (by omega) (by omega);clear hp;obtain⟨M,hM⟩:∃ M,M=msk place 7:=⟨_,rfl⟩;rw[<-hM] at hm hbt ⊢;clear hM;rw[CY,show fl (byt place) 0 7=fl (byt place) 0 4++fl (byt place) 4 3 from TQ _ 4 0 3]
 rw[Wz3,stp,if_neg (by omega),if_neg (by omega),Wz1];rw[show ((128+M:Nat):Int).toNat=128+M by omega];have p1:=CW (byt place) (128+M) 4 0 0 0 (fl (byt place) 4 3++rest) (fun i hi=>by rw[Wq7];exact hbt i (by omega));have p2:=CW (byt place) (128+M) 3 4 0 0 rest (fun i hi=>hbt (4+i) (by omega));rw[v1] at p1;rw[v2] at p2;rw[p1];simp only
 rw[p2];simp only;have hc:cnt len=len:=by unfold cnt;rw[if_neg (by omega)]
 rw[hc,if_pos h1]
theorem zuV (base:List Int) (at_ len:Nat) (rest:List Int) (h1:at_+len<=base.length) (h2:0<len) (h3:base.length<16777216):stp base (cpy at_ len++rest)=some ((base.drop at_).take len,rest) :=
 zq5 base at_ len rest h1 h2 h3 _ rfl
theorem zuW (at_ len:Nat) (h1:at_<16777216) (h2:len<16777216):(cpy at_ len).length<=7:=by
 unfold cpy xY;generalize hp:at_+len*4294967296=place;have e:byt place 3=0:=by simp only[byt,Wq4,Wq5];omega
 rw[Wz7,CY];have hl:∀ B k c,(fl B k c).length<=c:=by
  intro B k c;induction c generalizing k with
  | zero=>simp[fl]
  | succ c ih=>rw[fl,Wz6];have:=ih (k+1);split <;> simp <;> omega
 rw[show fl (byt place) 0 7=fl (byt place) 0 3++(fl (byt place) 3 1++fl (byt place) 4 3) from by rw[<-TQ,<-TQ],Wz6,Wz6];have a:=hl (byt place) 0 3;have c:=hl (byt place) 4 3;have b:(fl (byt place) 3 1).length=0:=by simp[fl,e]
 omega
theorem zuY (B:Nat->Nat) (e2:B 2=0) (e3:B 3=0) (e6:B 6=0):(fl B 0 7).length+1<=5/\(B 5=0->(fl B 0 7).length+1<=4):=by
 have h1:∀ b:Nat,(if b=0 then ([] : List Int) else [(b:Int)]).length<=1:=fun b=>by split <;> simp
 have h0:∀ b:Nat,b=0->(if b=0 then ([] : List Int) else [(b:Int)]).length=0:=fun b hb=>by rw[if_pos hb];rfl
 have a0:=h1 (B 0);have a1:=h1 (B 1);have a2:=h0 _ e2;have a3:=h0 _ e3;have a4:=h1 (B 4);have a5:=h1 (B 5);have a6:=h0 _ e6;simp only[fl,Wz6,List.length_nil,Wq7,Wq3,WzX];refine⟨by omega,fun h=>?_⟩;have a5:=h0 _ h;omega
theorem byt2 (place at_ len:Nat) (hp:at_+len*4294967296=place) (h1:at_<65536):byt place 2=0:=by
 simp only[byt,Wq4,Wq5];omega
theorem byt3 (place at_ len:Nat) (hp:at_+len*4294967296=place) (h1:at_<65536):byt place 3=0:=by
 simp only[byt,Wq4,Wq5];omega
theorem div0 (place at_ len:Nat) (hp:at_+len*4294967296=place) (h1:at_<65536):place / 4294967296=len:=by omega
theorem byt6 (place len:Nat) (e0:place / 4294967296=len) (h2:len<65536):byt place 6=0:=by
 simp only[byt,Wq4,Wq5];have:place / 281474976710656=len / 65536:=by rw[show (281474976710656:Nat)=4294967296*65536 from rfl,<-WzJ,e0]
 rw[this];clear this e0;omega
theorem byt5 (place len:Nat) (e0:place / 4294967296=len) (h2:len<256):byt place 5=0:=by
 simp only[byt,Wq4,Wq5];have:place / 1099511627776=len / 256:=by rw[show (1099511627776:Nat)=4294967296*256 from rfl,<-WzJ,e0]
 rw[this];clear this e0;omega
theorem IX (place at_ len:Nat) (hp:at_+len*4294967296=place) (h1:at_<65536) (h2:len<65536):(xY place 7).length<=5/\(len<256->(xY place 7).length<=4):=by
 have e0:=div0 place at_ len hp h1;have h:=zuY (byt place) (byt2 place at_ len hp h1) (byt3 place at_ len hp h1) (byt6 place len e0 h2);have h5:=byt5 place len e0;clear hp e0;unfold xY;rw[Wz7,CY];exact⟨h.1,fun g=>h.2 (h5 g)⟩
theorem V1 (at_ len:Nat) (h1:at_<65536) (h2:len<65536):(cpy at_ len).length<=5/\(len<256->(cpy at_ len).length<=4):=IX _ at_ len rfl h1 h2
theorem zq6 (place i:Nat):0<(xY place i).length:=by simp[xY]
theorem zj0 (place i:Nat) (rest:List Int):¬ xY place i++rest=[]:=by simp[xY]
theorem EX (at_ len:Nat):0<(cpy at_ len).length:=zq6 _ _
theorem qy5 (at_ len:Nat) (rest:List Int):¬ cpy at_ len++rest=[]:=zj0 _ _ _
def K7:Nat->List Int->List Int
 | 0,_=>[]
 | f+1,l=>if l=[] then [] else ((min 127 l.length:Nat):Int) :: l.take 127++K7 f (l.drop 127)
def own (l:List Int):List Int:=K7 (l.length+1) l
theorem N9:∀ (f:Nat) (l:List Int),l.length<f->K7 f l=K7 (f+1) l
 | 0,l,h=>by omega
 | f+1,l,h=>by
  rw[K7,K7];by_cases hl:l=[]
  ·rw[if_pos hl,if_pos hl]
  rw[if_neg hl,if_neg hl];have:=Wz9.2 hl;rw[N9 f (l.drop 127) (by simp;omega)]
theorem Nz (l:List Int):∀ k,K7 (l.length+1+k) l=K7 (l.length+1) l
 | 0=>rfl
 | k+1=>by rw[<-WzQ,<-N9 _ l (by omega)];exact Nz l k
theorem EJ:own []=[]:=rfl
theorem B0 (l:List Int) (h:l ≠ []):own l=((min 127 l.length:Nat):Int) :: l.take 127++own (l.drop 127):=by
 unfold own;have hl:=Wz9.2 h;rw[K7,if_neg h];obtain⟨k,hk⟩:∃ k,l.length=(l.drop 127).length+1+k:=⟨l.length-((l.drop 127).length+1),by simp;omega⟩;rw[hk,Nz]
theorem V2:∀ (n:Nat) (l:List Int),l.length=n->(own l).length=n+(n+126) / 127:=by
 intro n;induction n using Wq6 with
 | _ n ih =>
  intro l hl;by_cases h:l=[]
  ·subst h;simp at hl;subst hl;rfl
  have h0:=Wz9.2 h;rw[B0 l h];have:=ih (n-127) (by omega) (l.drop 127) (by simp;omega);simp only[Wz6,Wz7,Wzz,this];omega
theorem EK (base:List Int) (m:Nat) (rest:List Int):∀ (n:Nat) (l out:List Int),l.length=n->IsB l->out.length+l.length<=m->Z7 base m (own l++rest) out=Z7 base m rest (out++l):=by
 intro n;induction n using Wq6 with
 | _ n ih =>
  intro l out hl hb hm;by_cases h:l=[]
  ·subst h;rw[EJ];simp
  have h0:=Wz9.2 h;rw[B0 l h,ZJ,if_neg (by simp)];have hs:stp base (((min 127 l.length:Nat):Int) :: l.take 127++own (l.drop 127)++rest)=some (l.take 127,own (l.drop 127)++rest):=by
   rw[Wz1,Wz3,stp,if_neg (by omega),if_pos (by omega),Wz0];have e:(l.take 127).length=min 127 l.length:=Wzz;rw[if_pos (by rw[Wz6,e];omega),<-e,Wzy,List.drop_left]
  rw[hs];simp only;rw[if_pos (by rw[Wzz];omega)];rw[ih (n-127) (by omega) (l.drop 127) (out++l.take 127) (by simp;omega) (fun x hx=>hb x (Wzq hx)) (by simp;omega)];rw[Wz1,Wzv]
theorem zj1 (base:List Int) (m at_ len:Nat) (rest out:List Int) (h1:at_+len<=base.length) (h2:0<len) (h3:base.length<16777216) (hm:out.length+len<=m):Z7 base m (cpy at_ len++rest) out=Z7 base m rest (out++(base.drop at_).take len):=by
 rw[ZJ,if_neg (qy5 at_ len rest),zuV base at_ len rest h1 h2 h3];simp only;rw[if_pos (by rw[Wzz,Wz8];omega)]
def Fd (base b:List Int) (at_ len:Nat):Prop:=at_+len<=base.length/\len<=b.length/\(base.drop at_).take len=b.take len/\∀ k,k<=b.length->(∃ p q,base=p++b.take k++q)->k<=len
theorem qq4 {t:List Int} {N:Nat} {wd:Nat->List Int} {sh:Nat->Option Nat} {en:Nat->Nat} {del:Nat->Int->Option Nat} {last:Nat} (A:Sam.Sam t N wd sh en del last) (b:List Int) (len s:Nat) (hl:len<=b.length) (h:Sam.rd del (b.take len)=some s) (hn:∀ x,b[len]? = some x->del s x=none):len<=en s/\Fd t b (en s-len) len:=by
 obtain⟨h1,h2,h3⟩:=A.stands h;have e:(b.take len).length=len:=by rw[Wzz];omega
 rw[e] at h1 h3;refine⟨h1,by omega,hl,h3,fun k hk ⟨p,q,hpq⟩=>?_⟩;rcases WzW len k with hlk | hlk
 ·exfalso;have e1:b.take k=b.take (len+1)++(b.take k).drop (len+1):=by
   have:=Wzv (len+1) (b.take k);rw[WzZ,WzY (by omega)] at this;exact this.symm
  obtain⟨q',hq'⟩:=A.all p (b.take (len+1)) ((b.take k).drop (len+1)++q) (by
   rw[hpq];have e2:p++b.take (len+1)++((b.take k).drop (len+1)++q)=p++(b.take (len+1)++(b.take k).drop (len+1))++q:=(by simp only[Wz1]);rw[e2,<-e1])
  have hlt:len<b.length:=by omega
  rw[List.take_succ_eq_append_getElem hlt,Sam.rd_snoc,h] at hq';simp only[Wq8] at hq';rw[hn _ (List.getElem?_eq_getElem hlt)] at hq';cases hq'
 exact hlk
structure Cu (base target:List Int) (pre:List (List Int × List Int)) (bg at_:Nat):Prop where
 all:∀ P:List (List Int × List Int)->Nat->Nat->Prop,P [] 0 0->(∀ (pre:List (List Int × List Int)) (bg at_ fr len:Nat),P pre bg at_->at_<target.length->Fd base (target.drop at_) fr len->len<=(cpy fr len).length->P pre bg (at_+1)) →
  (∀ (pre:List (List Int × List Int)) (bg at_ fr len:Nat),P pre bg at_->at_<target.length->Fd base (target.drop at_) fr len->(cpy fr len).length<len->P (pre++[((target.take at_).drop bg,cpy fr len)]) (at_+len) (at_+len))->P pre bg at_
theorem Cu.start {base target:List Int} : Cu base target [] 0 0:=⟨fun _ h _ _=>h⟩
theorem Cu.own {base target:List Int} {pre:List (List Int × List Int)} {bg at_:Nat} (fr len:Nat) (h1:Cu base target pre bg at_) (h2:at_<target.length) (h3:Fd base (target.drop at_) fr len) (h4:len<=(cpy fr len).length):Cu base target pre bg (at_+1) :=
 ⟨fun P a b c=>b pre bg at_ fr len (h1.all P a b c) h2 h3 h4⟩
theorem Cu.copy {base target:List Int} {pre:List (List Int × List Int)} {bg at_:Nat} (fr len:Nat) (h1:Cu base target pre bg at_) (h2:at_<target.length) (h3:Fd base (target.drop at_) fr len) (h4:(cpy fr len).length<len):Cu base target (pre++[((target.take at_).drop bg,cpy fr len)]) (at_+len) (at_+len) :=
 ⟨fun P a b c=>c pre bg at_ fr len (h1.all P a b c) h2 h3 h4⟩
theorem Cu.ind {base target:List Int} {motive:(pre:List (List Int × List Int))->(bg at_:Nat)->Cu base target pre bg at_->Prop} (start:motive [] 0 0 Cu.start)
  (own:∀ {pre:List (List Int × List Int)} {bg at_:Nat} (fr len:Nat) (h1:Cu base target pre bg at_) (h2:at_<target.length) (h3:Fd base (target.drop at_) fr len) (h4:len<=(cpy fr len).length),motive pre bg at_ h1->motive pre bg (at_+1) (Cu.own fr len h1 h2 h3 h4))
  (copy:∀ {pre:List (List Int × List Int)} {bg at_:Nat} (fr len:Nat) (h1:Cu base target pre bg at_) (h2:at_<target.length) (h3:Fd base (target.drop at_) fr len) (h4:(cpy fr len).length<len),motive pre bg at_ h1->motive (pre++[((target.take at_).drop bg,cpy fr len)]) (at_+len) (at_+len) (Cu.copy fr len h1 h2 h3 h4))
  {pre:List (List Int × List Int)} {bg at_:Nat} (h:Cu base target pre bg at_):motive pre bg at_ h:=by
 have k:∃ h',motive pre bg at_ h':=h.all (fun p b c=>∃ h',motive p b c h') ⟨_,start⟩ (fun p b c fr len ⟨h1,m⟩ h2 h3 h4=>⟨_,own fr len h1 h2 h3 h4 m⟩) (fun p b c fr len ⟨h1,m⟩ h2 h3 h4=>⟨_,copy fr len h1 h2 h3 h4 m⟩);obtain⟨_,m⟩:=k;exact m
theorem Cu.le {base target:List Int} {pre:List (List Int × List Int)} {bg at_:Nat} (h:Cu base target pre bg at_):bg<=at_/\at_<=target.length:=by
 induction h using Cu.ind with
 | start=>exact⟨WzV _,Nat.zero_le _⟩
 | own fr len h1 h2 h3 h4 ih=>omega
 | copy fr len h1 h2 h3 h4 ih =>
  have:=h3.2.1;simp at this;omega
def xz (pre:List (List Int × List Int)):List Int:=pre.flatMap fun x=>own x.1++x.2
theorem uZ (pre:List (List Int × List Int)) (x:List Int × List Int):xz (pre++[x])=xz pre++(own x.1++x.2):=by simp[xz]
theorem mid (target:List Int) (bg at_:Nat) (h1:bg<=at_) (h2:at_<=target.length):target.take bg++(target.take at_).drop bg=target.take at_:=by
 have:=Wzv bg (target.take at_);rwa [WzZ,WzY h1] at this
theorem Cu.app {base target:List Int} {pre:List (List Int × List Int)} {bg at_:Nat} (h:Cu base target pre bg at_) (hb:IsB target) (h3:base.length<16777216) (rest:List Int):Z7 base target.length (xz pre++rest) []=Z7 base target.length rest (target.take bg):=by
 induction h using Cu.ind generalizing rest with
 | start=>simp[xz]
 | own fr len g1 g2 g3 g4 ih=>exact ih rest
 | @copy pre bg at_ fr len g1 g2 g3 g4 ih =>
  obtain⟨l1,l2⟩:=g1.le;obtain⟨f1,f2,f3,f4⟩:=g3;rw[Wz8] at f2;rw[uZ,Wz1,ih,Wz1];rw[EK base _ _ _ _ _ rfl (fun x hx=>hb x (List.mem_of_mem_take (Wzq hx))) (by simp;omega)];rw[mid target bg at_ l1 l2,zj1 base _ fr len rest _ f1 (by omega) h3 (by simp;omega),f3];congr 1;rw[<-List.take_add]
def mk (base target:List Int) (pre:List (List Int × List Int)) (bg:Nat):List Int:=szw base.length++(szw target.length++(xz pre++own (target.drop bg)))
theorem qy6 (base target:List Int) (pre:List (List Int × List Int)) (bg:Nat) (h1:base.length<=100000) (h2:target.length<=100000):szs (mk base target pre bg)=some (base.length,target.length,xz pre++own (target.drop bg)):=by
 unfold szs mk;rw[zq3 (by omega)];simp only;rw[zq3 (by omega)]
theorem mk_app {base target:List Int} {pre:List (List Int × List Int)} {bg:Nat} (h:Cu base target pre bg target.length) (hb:IsB target) (h1:base.length<=100000) (h2:target.length<=100000):app base (mk base target pre bg)=some target:=by
 unfold app;rw[qy6 base target pre bg h1 h2];simp only;rw[if_pos ⟨trivial,h2⟩];show Z7 base target.length (xz pre++own (target.drop bg)) []=some target;obtain⟨l1,l2⟩:=h.le;rw[h.app hb (by omega)];have:=EK base target.length [] _ (target.drop bg) (target.take bg) rfl (fun x hx=>hb x (Wzq hx)) (by simp;omega);rw[Wz2] at this
 rw[this,Wzv,ZJ,if_pos rfl,if_pos rfl]
theorem Cu.short {base target:List Int} {pre:List (List Int × List Int)} {bg at_:Nat} (h:Cu base target pre bg at_):127*(xz pre).length<=128*bg:=by
 induction h using Cu.ind with
 | start=>simp[xz]
 | own fr len g1 g2 g3 g4 ih=>exact ih
 | @copy pre bg at_ fr len g1 g2 g3 g4 ih =>
  obtain⟨l1,l2⟩:=g1.le;rw[uZ,Wz6,Wz6,V2 _ _ rfl];have e:((target.take at_).drop bg).length=at_-bg:=by simp;omega
  simp only[e];omega
theorem YW {n:Nat} (h:n<2097152):(szw n).length<=3:=by
 unfold szw;have key:∀ n,wsz 5 n=if n<128 then [(n:Int)] else ((n % 128+128:Nat):Int) :: (if n / 128<128 then [((n / 128:Nat):Int)] else ((n / 128 % 128+128:Nat):Int) :: wsz 3 (n / 128 / 128)):=fun n=>by rw[wsz,wsz]
 rw[key];split
 ·simp
 split
 ·simp
 rw[wsz,if_pos (by omega)];simp
theorem mk_len {base target:List Int} {pre:List (List Int × List Int)} {bg:Nat} (h:Cu base target pre bg target.length) (h1:base.length<=100000) (h2:target.length<=100000):(mk base target pre bg).length<=target.length+target.length / 100+20:=by
 unfold mk;have a:=YW (n:=base.length) (by omega);have b:=YW (n:=target.length) (by omega);have c:=h.short;obtain⟨l1,l2⟩:=h.le;simp only[Wz6,V2 _ _ rfl,Wz8];omega
end Go.Proofs.YtiaaekdpfpaigaaGreatDoor.Dl.Plain
namespace Go.Proofs.YtiaaekdpfpaigaaGreatDoor.Dl
open Go.RowKit
theorem addr_add (b off j:Nat):(⟨b,off,none⟩:Addr).add j=⟨b,off+j,none⟩:=by unfold Addr.add;split <;> simp_all
end Go.Proofs.YtiaaekdpfpaigaaGreatDoor.Dl
namespace Go.Proofs.YtiaaekdpfpaigaaGreatDoor.Pk
open Dl.Plain
theorem zq7 {base target:List Int} (at_ k:Nat) (hl:target.length=base.length) (hk:at_+k<=target.length) (he:∀ i,at_<=i->i<at_+k->target[i]? = base[i]?) :
  ∃ p q,base=p++(target.drop at_).take k++q:=by
 have e:(target.drop at_).take k=(base.drop at_).take k:=by
  apply List.ext_getElem?;intro i;by_cases hi:i<k
  ·rw[List.getElem?_take_of_lt hi,List.getElem?_take_of_lt hi,List.getElem?_drop,List.getElem?_drop];exact he _ (by omega) (by omega)
  rw[List.getElem?_eq_none (by simp;omega),List.getElem?_eq_none (by simp;omega)]
 refine⟨base.take at_,(base.drop at_).drop k,?_⟩;rw[e,Wz1,Wzv,Wzv]
theorem EV (l:List Int):(own l).length<=2*l.length:=by
 rw[V2 _ _ rfl];omega
theorem zj2 {base target:List Int} {s:Nat} (hl:target.length=base.length) (hb:base.length<65536) (hs:s<target.length)
  (he:∀ i,i ≠ s->target[i]? = base[i]?) {pre:List (List Int × List Int)} {bg at_:Nat} (hc:Cu base target pre bg at_) :
  (at_<s->(at_=0 ∨ s<=4)/\(xz pre).length+2*(at_-bg)<=2*at_)/\(at_=s->(xz pre).length+2*(at_-bg)<=11)/\
  (s<at_->(xz pre).length+2*(at_-bg)<=16 ∨ (target.length<=at_+3/\(xz pre).length+2*(at_-bg)+2*(target.length-at_)<=24) ∨ (at_=target.length/\(xz pre).length+2*(at_-bg)<=27)):=by
 have reach:∀ at_ fr len,at_<target.length->Dl.Plain.Fd base (target.drop at_) fr len->(at_<s->s<=at_+len)/\(s<at_->at_+len=target.length):=by
  intro at_ fr len h1 h2;obtain⟨f1,f2,f3,f4⟩:=h2;have hd:(target.drop at_).length=target.length-at_:=by simp
  rw[hd] at f2 f4;refine⟨fun h=>?_,fun h=>?_⟩
  ·have:=f4 (s-at_) (by omega) (zq7 at_ _ hl (by omega) (fun i a b=>he i (by omega)));omega
  have:=f4 (target.length-at_) (by omega) (zq7 at_ _ hl (by omega) (fun i a b=>he i (by omega)));omega
 induction hc using Cu.ind with
 | start=>exact⟨fun h=>⟨.inl rfl,by simp[xz]⟩,fun h=>by simp[xz],fun h=>by omega⟩
 | @own pre bg at_ fr len g1 g2 g3 g4 ih =>
  obtain⟨i1,i2,i3⟩:=ih;obtain⟨l1,l2⟩:=g1.le;obtain⟨r1,r2⟩:=reach _ _ _ g2 g3;have hfr:=g3.1;have h5:=V1 fr len (by omega) (by omega);have hlen:len<=4:=by
   rcases WzW len 256 with h | h
   ·have:=h5.2 h;omega
   have:=h5.1;omega
  refine⟨fun h=>?_,fun h=>?_,fun h=>?_⟩
  ·obtain⟨a,b⟩:=i1 (by omega);have:=r1 (by omega);omega
  ·obtain⟨a,b⟩:=i1 (by omega);have:=r1 (by omega);omega
  rcases WzW s at_ with h' | h'
  ·have e:=r2 h';rcases i3 h' with a | ⟨a,b⟩ | ⟨a,b⟩ <;> omega
  have:=i2 (by omega);omega
 | @copy pre bg at_ fr len g1 g2 g3 g4 ih =>
  obtain⟨i1,i2,i3⟩:=ih;obtain⟨l1,l2⟩:=g1.le;obtain⟨r1,r2⟩:=reach _ _ _ g2 g3;have hfr:=g3.1;have h5:=(V1 fr len (by omega) (by omega)).1;have hpos:=EX fr len;have hst:(xz (pre++[((target.take at_).drop bg,cpy fr len)])).length<=(xz pre).length+2*(at_-bg)+5:=by
   have e0:xz (pre++[((target.take at_).drop bg,cpy fr len)])=xz pre++(own ((target.take at_).drop bg)++cpy fr len):=uZ _ _;rw[e0,Wz6,Wz6];have:=EV ((target.take at_).drop bg);have e:((target.take at_).drop bg).length=at_-bg:=(by simp;omega);rw[e] at this;omega
  have hz:at_+len-(at_+len)=0:=Nat.sub_self _;rw[hz];refine⟨fun h=>?_,fun h=>?_,fun h=>?_⟩
  ·have:=r1 (by omega);omega
  ·rcases WzW at_ s with h' | h'
   ·obtain⟨a,b⟩:=i1 h';have:=r1 h';omega
   omega
  rcases WzW s at_ with h' | h'
  ·have e:=r2 h';rcases i3 h' with a | ⟨a,b⟩ | ⟨a,b⟩ <;> omega
  rcases WzW at_ s with h'' | h''
  ·obtain⟨a,b⟩:=i1 h'';have:=r1 h'';omega
  have:=i2 (by omega);omega
theorem qy7 {base target:List Int} {s:Nat} (hl:target.length=base.length) (hb:base.length<65536) (hs:s<target.length)
  (he:∀ i,i ≠ s->target[i]? = base[i]?) {pre:List (List Int × List Int)} {bg:Nat} (hc:Cu base target pre bg target.length) :
  (mk base target pre bg).length<=33:=by
 have c:=(zj2 hl hb hs he hc).2.2 hs;have a:=YW (n:=base.length) (by omega);have b:=YW (n:=target.length) (by omega);obtain⟨l1,l2⟩:=hc.le;have o:=EV (target.drop bg);rw[Wz8] at o;unfold mk;simp only[Wz6];omega
end Go.Proofs.YtiaaekdpfpaigaaGreatDoor.Pk
