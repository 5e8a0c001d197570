import Derived.Test.YtiaaekdpfpaigaaGreatDoorMn04
import Derived.Test.YtiaaekdpfpaigaaGreatDoorMn01
set_option linter.unusedSimpArgs false
set_option linter.unusedVariables false
set_option maxRecDepth 20000
set_option maxHeartbeats 4000000
open List renaming eq_of_mem_replicate->Wy5,length_replicate->Wy3,mem_append->WqX,replicate->WqV
open Nat renaming le_refl->WzV,lt_or_ge->WzW
open Option renaming some->Wq9
namespace Go.Proofs.YtiaaekdpfpaigaaGreatDoor.Df
open Go.Proofs.Tryz
open Go.RowKit Plain
theorem zqv {x:Int} (h1 : -1000000<=x) (h2:x<=1000000):IntKind.i64.wrap x=x:=by rw[IntKind.wrap_i64];omega
def yu (zs:List Int) (most:Int) (p:Nat) (out:List Int):Res :=
 if 8*zs.length<8*((p+7) / 8)+16 then .error 10
 else if 8*zs.length<8*((p+7) / 8)+16+16 then .error 10
 else if zZ zs (8*((p+7) / 8)+16) 16 ≠ 65535-zZ zs (8*((p+7) / 8)) 16 ∨ zs.length-((p+7) / 8+4)<zZ zs (8*((p+7) / 8)) 16 then .error 10
 else if ¬ ((zZ zs (8*((p+7) / 8)) 16:Nat):Int)<=most-out.length then .error 11
 else .ok (8*((p+7) / 8+4+zZ zs (8*((p+7) / 8)) 16),out++(zs.drop ((p+7) / 8+4)).take (zZ zs (8*((p+7) / 8)) 16))
theorem zj6 {w w':World} {E:Env} {p nx held:Nat} {v:Value} (h:Str w' E nx 0 0 v) (hp:8*nx=p+held) (hh:held<=7) (hn:nx<=E.zs.length):nx=(p+7) / 8/\Rd w' E (8*((p+7) / 8)) v:=by
 have e:nx=(p+7) / 8:=by omega
 exact⟨e,nx,0,0,h,by omega,by omega,hn,by show 0=_;rw[Z8]⟩
theorem Bw {zs:List Int} {most:Int} {p c:Nat} {out:List Int} (hc:c=(p+7) / 8) (h:8*zs.length<8*c+16):yu zs most p out=.error 10:=by
 subst hc;unfold yu;rw[if_pos h]
theorem By {zs:List Int} {most:Int} {p c:Nat} {out:List Int} (hc:c=(p+7) / 8) (h:8*zs.length<8*c+16+16):yu zs most p out=.error 10:=by
 subst hc;unfold yu;by_cases h2:8*zs.length<8*((p+7) / 8)+16
 ·rw[if_pos h2]
 rw[if_neg h2,if_pos h]
theorem KQ {zs:List Int} {most:Int} {p c n m:Nat} {out:List Int} (hc:c=(p+7) / 8) (h:¬ 8*zs.length<8*c+16+16) (hn:n=zZ zs (8*c) 16) (hm:m=zZ zs (8*c+16) 16) (hb:m ≠ 65535-n ∨ zs.length-(c+4)<n):yu zs most p out=.error 10:=by
 subst hc hn hm;unfold yu;rw[if_neg (by omega),if_neg h,if_pos hb]
theorem KX {zs:List Int} {most:Int} {p c n m:Nat} {out:List Int} (hc:c=(p+7) / 8) (h:¬ 8*zs.length<8*c+16+16) (hn:n=zZ zs (8*c) 16) (hm:m=zZ zs (8*c+16) 16) (hb:¬ (m ≠ 65535-n ∨ zs.length-(c+4)<n)) (hr:¬ (n:Int)<=most-out.length):yu zs most p out=.error 11:=by
 subst hc hn hm;unfold yu;rw[if_neg (by omega),if_neg h,if_neg hb,if_pos hr]
theorem KJ {zs:List Int} {most:Int} {p c n m:Nat} {out:List Int} (hc:c=(p+7) / 8) (h:¬ 8*zs.length<8*c+16+16) (hn:n=zZ zs (8*c) 16) (hm:m=zZ zs (8*c+16) 16) (hb:¬ (m ≠ 65535-n ∨ zs.length-(c+4)<n)) (hr:(n:Int)<=most-out.length):yu zs most p out=.ok (8*(c+4+n),out++(zs.drop (c+4)).take n):=by
 subst hc hn hm;unfold yu;rw[if_neg (by omega),if_neg h,if_neg hb,if_neg (by omega)]
theorem Gv (w:World) (q:Nat) (row:Option Nat):w.grownBy (w.drewN q) row:=⟨rfl,rfl,rfl,WzV _,fun _ _ _=>rfl⟩
theorem KV (E:Env) (B p:Nat) (v:Value) (out:List Int) (w:World) (hz:IsB E.zs) (hl:E.zs.length<=400000) (h:St w E B p v out) (hm:E.most<=400000) (hcap:E.zs.length<=E.cap) :
  Calls prog 137 #[.pointer (some ⟨E.S,0,none⟩)] w (Post E B v w (yu E.zs E.most p out)):=by
 obtain⟨r,HR0⟩:=nm_ (yu E.zs E.most p out);rw[HR0.out];obtain⟨nx,hold,held,hst,hp,hh,hnx,HG⟩:=h.rd;go_enter func137,ntmps137;go_wp2_with fail
 refine(TK E nx hold held v w hst).mono ?_;rintro e w1 ⟨rfl,s1,k1⟩;obtain⟨hnx2,r1⟩:=zj6 (w:=w) s1 hp hh hnx;obtain⟨c,HC⟩:=nn_ ((p+7) / 8);rw[<-HC.out] at r1 hnx2;by_cases h16:8*E.zs.length<8*c+16
 ·obtain rfl:=(Bw HC.out h16).symm.trans HR0.out;go_wp2_with fail
  refine(y5 E (8*c) 16 v w1 hz hl (by omega) r1 h16).mono ?_;rintro e w2 ⟨rfl,k2⟩;exact⟨rfl,rfl,v,(k1.trans k2).weak v⟩
 have gn:=y8 E.zs (8*c) 16;obtain⟨n,HN⟩:=nn_ (zZ E.zs (8*c) 16);rw[<-HN.out] at gn;have hn16:n<=65535:=by omega
 clear gn;go_wp2_with fail
 refine(qX E (8*c) 16 v w1 hz hl (by omega) r1 (by omega)).mono ?_;rintro e w2 ⟨rfl,r2,k2⟩;rw[<-HN.out];have K2:=k1.trans k2;have S2:St w2 E B (8*c+16) v out:=h.read r2 K2;have HK2:Hid (Kept E.S (.bool true) (.bool true) w w2):=K2;go_wp2;refine wp_region_any (by kernel_rfl) ?_
 refine wpAny_take (i:=0) (v:=?_) rfl (by kernel_rfl) (by kernel_rfl) (by kernel_rfl) (fun _ _ _ h=>h) (Or.inl ⟨by rfl,?_⟩) ?_;rotate_left
 ·intro w;go_simp;rfl
 try simp only[Act.put,sL]
 refine wpAny_take (i:=2) (v:=?_) rfl (by kernel_rfl) (by kernel_rfl) (by kernel_rfl) (fun _ _ _ h=>h) (Or.inl ⟨by rfl,?_⟩) ?_;rotate_left
 ·intro w;go_simp;rfl
 try simp only[Act.put,sL]
 refine wpAny_take (i:=3) (v:=?_) rfl (by kernel_rfl) (by kernel_rfl) (by kernel_rfl) (fun _ _ _ h=>h) (Or.inl ⟨by rfl,?_⟩) ?_;rotate_left
 ·intro w;go_simp;rfl
 try simp only[Act.put,sL]
 refine wpAny_ready (rs:=[1]) (by kernel_rfl) (by simp) ?_;refine AllReady.cons rfl (fun K hK=>?_) AllReady.nil;go_simp;by_cases h32:8*E.zs.length<8*c+16+16
 ·obtain rfl:=(By HC.out h32).symm.trans HR0.out;refine(y5 E (8*c+16) 16 v _ hz hl (by omega) (by exact r2.drew) h32).mono ?_;rintro e w3 ⟨rfl,k3⟩;exact⟨rfl,rfl,v,(HK2.out.drew.trans k3).weak v⟩
 have gm:=y8 E.zs (8*c+16) 16;obtain⟨m,HM⟩:=nn_ (zZ E.zs (8*c+16) 16);rw[<-HM.out] at gm;have hm16:m<=65535:=by omega
 clear gm k1 k2 K2;refine(qX E (8*c+16) 16 v _ hz hl (by omega) (by exact r2.drew) (by omega)).mono ?_;rintro e w3 ⟨rfl,r3,k3⟩;rw[<-HM.out];have HK3:Hid (Kept E.S (.bool true) (.bool true) w w3):=HK2.out.drew.trans k3;have HS3:Hid (St w3 E B (8*c+16+16) v out):=S2.read r3 ((Kept.refl _ _ _).drew.trans k3);obtain⟨nx3,hold3,held3,t3,hp3,hh3,hn3,HG3⟩:=r3
 obtain rfl:nx3=c+4:=by omega
 have HT3:Hid (Str w3 E (c+4) hold3 held3 v):=t3;obtain⟨d0,d1,d2,d3,d4,d5,d6,dz,-,-,-,-,-,-⟩:=t3;refine hK _ _ ?_;clear k3 hK K;try simp only[Act.put,sL]
 refine PW 4 5 12 (by kernel_rfl) (by rfl) (by kernel_rfl) (by rfl) (fun ops hd=>?_);simp only[List.drop_succ_cons,List.drop_zero];iterate 2 (refine yK rfl (fun K hK=>?_);go_simp;refine hK _ ?_;clear hK K)
 have hwr:IntKind.i64.wrap (65535-(n:Int))=65535-n:=zqv (by omega) (by omega);rw[hwr];clear hwr;by_cases hne:m ≠ 65535-n
 ·obtain rfl:=(KQ HC.out h32 HN.out HM.out (.inl hne)).symm.trans HR0.out;have hneZ:((m:Int) != 65535-n)=true:=by simp;omega
  rw[hneZ];iterate 12 (refine R0 hd rfl rfl ?_;simp only[Act.put,List.setIfInBounds_toArray,List.set_cons_zero,List.set_cons_succ])
  refine yK rfl (fun K hK=>?_);go_simp;refine hK _ ?_;clear hK K;refine wpStill_nil ?_;go_wp2;exact⟨rfl,rfl,v,HK3.out.weak v⟩
 have hneZ:((m:Int) != 65535-n)=false:=by simp;omega
 rw[hneZ];have hwr2:IntKind.i64.wrap ((E.zs.length:Int)-((c:Int)+4))=E.zs.length-((c:Int)+4):=zqv (by omega) (by omega);iterate 12 (refine R3 hd rfl rfl (fun K hK=>?_);go_simp;refine hK _ ?_;clear hK K)
 clear hwr2 hneZ;by_cases hlen:E.zs.length-(c+4)<n
 ·obtain rfl:=(KQ HC.out h32 HN.out HM.out (.inr hlen)).symm.trans HR0.out;rw[show decide ((E.zs.length:Int)-((c:Int)+4)<n)=true from decide_eq_true (by omega)];refine yK rfl (fun K hK=>?_);go_simp;refine hK _ ?_;clear hK K;refine wpStill_nil ?_;go_wp2;exact⟨rfl,rfl,v,HK3.out.weak v⟩
 rw[show decide ((E.zs.length:Int)-((c:Int)+4)<n)=false from decide_eq_false (by omega)];refine yK rfl (fun K hK=>?_);go_simp;refine hK _ ?_;clear hK K;refine wpStill_nil ?_;have hlo:=HS3.out.len hm;have hle3:=HS3.out.le;obtain⟨k,hko⟩:∃ k,out.length=k:=⟨_,rfl⟩;have hown:=HS3.out.own;have hB3:=HS3.out.hB;have hisB:=HS3.out.isB;rw[hko] at hown hlo hle3
 obtain⟨a,cp,rfl⟩:=zW hown;have hbad:¬ (m ≠ 65535-n ∨ E.zs.length-(c+4)<n):=by rintro(h1 | h1) <;> contradiction
 by_cases hr':(n:Int)<=E.most-k;rotate_left
 ·obtain rfl:=(KX (out:=out) HC.out h32 HN.out HM.out hbad (by rw[hko];exact hr')).symm.trans HR0.out;go_wp2_with fail
  refine(ZV E (c+4) hold3 held3 n k cp _ _ hm hlo (by omega) (by omega) HT3.out (by omega)).mono ?_;rintro e w4 ⟨rfl,q,rfl⟩;exact⟨rfl,rfl,_,(HK3.out.weak _).drewN _⟩
 obtain rfl:=(KJ (out:=out) HC.out h32 HN.out HM.out hbad (by rw[hko];exact hr')).symm.trans HR0.out;have H03:Hid (held3=0):=by show _=_;omega
 have HH0:Hid (hold3=0):=by have h1:=HG3.out;rw[H03.out,Z8] at h1;exact h1
 clear HR0 HG3 HM HN HC hd d2 d3 d5 d6 hst s1 r1 r2 S2;go_wp2_with fail
 refine(QK E (c+4) hold3 held3 n k cp _ _ hm hlo (by omega) (by omega) HT3.out hr').mono ?_;rintro e w4 ⟨rfl,q,rfl⟩;obtain⟨i5,hi,hz0,hz1,hz2⟩:=info_parts info5;have hsrc:=HT3.out.src;have f4:=dz 4;have f1:=dz 1;obtain⟨t,HTt⟩:=nn_ (c+4);have htn:t+n<=E.zs.length:=by have:=HTt.out;omega
 have htp:8*t=8*c+16+16+held3:=by have:=HTt.out;omega
 rw[<-HTt.out] at d1 HT3 ⊢;clear dz hn3 hp3 hlen hbad hne h32 h16 hnx2;have hwa:IntKind.i64.wrap ((t:Int)+n)=(t:Int)+n:=zqv (by omega) (by omega);have g1:(t:Int)+n<=E.cap:=by omega
 have g2:0<=(t:Int)+n:=by omega
 have g3:(t:Int)<=max ((t:Int)+n) 0:=by omega
 have g5:(t:Int)<=(t:Int)+n:=by omega
 have g4:((t:Int)+n).toNat-t=n:=by omega
 obtain⟨ad,had⟩:∃ ad,(if E.cap=t then some (⟨E.ib,E.io,none⟩:Addr) else some ⟨E.ib,E.io+t,none⟩)=some ad:=by split <;> exact⟨_,rfl⟩
 obtain⟨news,HNW⟩:=nn_ ((E.zs.drop t).take n);have hnl:news.length=n:=by rw[HNW.out];simp;omega
 have HNA:Hid (∀ j u,(news.map (Value.int .u8))[j]? = some u->w3.cell? (ad.add j)=some u):=by
  intro j u hj;have hjn:j<n:=by
   rcases WzW j n with h1 | h1
   ·exact h1
   rw[List.getElem?_eq_none (by simp;omega)] at hj;cases hj
  rw[if_neg (by omega)] at had;obtain rfl:=Wq9.inj had;have:=hsrc (t+j) (by omega);rw[addr_add,Nat.add_assoc,this,<-hj,HNW.out,List.getElem?_map,List.getElem?_take_of_lt hjn,List.getElem?_drop];simp[List.getD_eq_getElem?_getD,List.getElem?_eq_getElem (show t+j<E.zs.length by omega)]
 have HNB:Hid (IsB news):=by
  intro x hx;rw[HNW.out] at hx;exact hz x (List.mem_of_mem_drop (List.mem_of_mem_take hx))
 have HOW:Hid (w3.ownsRow B 5 1 (Value.slice a k cp) k (List.map (Value.int IntKind.u8) out)):=hown;clear hown;go_wp2;have hst0:(w3.drewN q).cell? ⟨E.S,0,none⟩=some (.slice (some ⟨E.ib,E.io,none⟩) E.zs.length E.cap)/\(w3.drewN q).cell? ⟨E.S,1,none⟩=some (.int .i64 t):=⟨d0,d1⟩
 refine wp_region_held_drew (S:=fun w'=>w'.cell? ⟨E.S,0,none⟩=some (.slice (some ⟨E.ib,E.io,none⟩) E.zs.length E.cap)/\w'.cell? ⟨E.S,1,none⟩=some (.int .i64 t)) (by kernel_rfl) hst0 (fun hHeld=>?_);clear hst0;refine wpAnyH_take (i:=0) (v:=?_) rfl (by kernel_rfl) (by kernel_rfl) (by kernel_rfl) (fun _ _ _ h=>h) (Or.inl ⟨by rfl,?_⟩) hHeld ?_;rotate_left
 ·rintro w ⟨s0,s1⟩;go_simp;rfl
 try simp only[Act.put,sL]
 refine wpAnyH_take (i:=1) (v:=?_) rfl (by kernel_rfl) (by kernel_rfl) (by kernel_rfl) (fun _ _ _ h=>h) (Or.inl ⟨by rfl,?_⟩) hHeld ?_;rotate_left
 ·rintro w ⟨s0,s1⟩;go_simp;rfl
 try simp only[Act.put,sL]
 refine wpAnyH_take (i:=2) (v:=?_) rfl (by kernel_rfl) (by kernel_rfl) (by kernel_rfl) (fun _ _ _ h=>h) (Or.inl ⟨by rfl,?_⟩) hHeld ?_;rotate_left
 ·rintro w ⟨s0,s1⟩;go_simp;rfl
 try simp only[Act.put,sL]
 refine wpAnyH_take (i:=3) (v:=?_) rfl (by kernel_rfl) (by kernel_rfl) (by kernel_rfl) (fun _ _ _ h=>h) (Or.inl ⟨by rfl,?_⟩) hHeld ?_;rotate_left
 ·rintro w ⟨s0,s1⟩;go_simp;rfl
 try simp only[Act.put,sL]
 refine wpAnyH_take (i:=5) (v:=?_) rfl (by kernel_rfl) (by kernel_rfl) (by kernel_rfl) (fun _ _ _ h=>h) (Or.inl ⟨by rfl,?_⟩) hHeld ?_;rotate_left
 ·rintro w ⟨s0,s1⟩;go_simp;rfl
 try simp only[Act.put,sL]
 refine wpAnyH_take (i:=6) (v:=?_) rfl (by kernel_rfl) (by kernel_rfl) (by kernel_rfl) (fun _ _ _ h=>h) (Or.inl ⟨by rfl,?_⟩) hHeld ?_;rotate_left
 ·rintro w ⟨s0,s1⟩;go_simp;rfl
 try simp only[Act.put,sL]
 refine wpAnyH_take (i:=7) (v:=?_) rfl (by kernel_rfl) (by kernel_rfl) (by kernel_rfl) (fun _ _ _ h=>h) (Or.inl ⟨by rfl,?_⟩) hHeld ?_;rotate_left
 ·rintro w ⟨s0,s1⟩;go_simp;rfl
 try simp only[Act.put,sL]
 refine wpAnyH_take (i:=8) (v:=?_) rfl (by kernel_rfl) (by kernel_rfl) (by kernel_rfl) (fun _ _ _ h=>h) (Or.inl ⟨by rfl,?_⟩) hHeld ?_;rotate_left
 ·rintro w ⟨s0,s1⟩;go_simp;rfl
 try simp only[Act.put,sL]
 refine wpAnyH_take (i:=9) (v:=?_) rfl (by kernel_rfl) (by kernel_rfl) (by kernel_rfl) (fun _ _ _ h=>h) (Or.inl ⟨by rfl,?_⟩) hHeld ?_;rotate_left
 ·rintro w ⟨s0,s1⟩;go_simp;rfl
 try simp only[Act.put,sL]
 refine wpAnyH_take (i:=10) (v:=?_) rfl (by kernel_rfl) (by kernel_rfl) (by kernel_rfl) (fun _ _ _ h=>h) (Or.inl ⟨by rfl,?_⟩) hHeld ?_;rotate_left
 ·rintro w ⟨s0,s1⟩;go_simp;rfl
 try simp only[Act.put,sL]
 refine wpAnyH_take (i:=11) (v:=?_) rfl (by kernel_rfl) (by kernel_rfl) (by kernel_rfl) (fun _ _ _ h=>h) (Or.inl ⟨by rfl,?_⟩) hHeld ?_;rotate_left
 ·rintro w ⟨s0,s1⟩;go_simp;rfl
 try simp only[Act.put,sL]
 refine wpAnyH_take (i:=12) (v:=?_) rfl (by kernel_rfl) (by kernel_rfl) (by kernel_rfl) (fun _ _ _ h=>h) (Or.inl ⟨by rfl,?_⟩) hHeld ?_;rotate_left
 ·rintro w ⟨s0,s1⟩;go_simp;rfl
 try simp only[Act.put,sL]
 refine wpAnyH_take (i:=13) (v:=?_) rfl (by kernel_rfl) (by kernel_rfl) (by kernel_rfl) (fun _ _ _ h=>h) (Or.inl ⟨by rfl,?_⟩) hHeld ?_;rotate_left
 ·rintro w ⟨s0,s1⟩;go_simp;rfl
 try simp only[Act.put,sL]
 refine wpAnyH_take (i:=14) (v:=?_) rfl (by kernel_rfl) (by kernel_rfl) (by kernel_rfl) (fun _ _ _ h=>h) (Or.inl ⟨by rfl,?_⟩) hHeld ?_;rotate_left
 ·rintro w ⟨s0,s1⟩;go_simp;rfl
 try simp only[Act.put,sL]
 refine wpAnyH_take (i:=15) (v:=?_) rfl (by kernel_rfl) (by kernel_rfl) (by kernel_rfl) (fun _ _ _ h=>h) (Or.inl ⟨by rfl,?_⟩) hHeld ?_;rotate_left
 ·rintro w ⟨s0,s1⟩;go_simp;rfl
 try simp only[Act.put,sL]
 refine wpAnyH_take (i:=16) (v:=?_) rfl (by kernel_rfl) (by kernel_rfl) (by kernel_rfl) (fun _ _ _ h=>h) (Or.inl ⟨by rfl,?_⟩) hHeld ?_;rotate_left
 ·rintro w ⟨s0,s1⟩;go_simp;rfl
 try simp only[Act.put,sL]
 refine wpAnyH_take (i:=17) (v:=?_) rfl (by kernel_rfl) (by kernel_rfl) (by kernel_rfl) (fun _ _ _ h=>h) (Or.inl ⟨by rfl,?_⟩) hHeld ?_;rotate_left
 ·rintro w ⟨s0,s1⟩;go_simp;rfl
 try simp only[Act.put,sL]
 refine wpAnyH_take (i:=18) (v:=?_) rfl (by kernel_rfl) (by kernel_rfl) (by kernel_rfl) (fun _ _ _ h=>h) (Or.inl ⟨by rfl,?_⟩) hHeld ?_;rotate_left
 ·rintro w ⟨s0,s1⟩;go_simp;rfl
 try simp only[Act.put,sL]
 refine wpAnyH_take (i:=19) (v:=?_) rfl (by kernel_rfl) (by kernel_rfl) (by kernel_rfl) (fun _ _ _ h=>h) (Or.inl ⟨by rfl,?_⟩) hHeld ?_;rotate_left
 ·rintro w ⟨s0,s1⟩;go_simp;rfl
 try simp only[Act.put,sL]
 refine wpAnyH_ready (rs:=[4]) (by kernel_rfl) (by simp) ?_;refine AllReadyH.cons rfl (fun K hK=>?_) AllReadyH.nil;go_simp;refine hK.out _ _ hHeld (fun hHeld2=>?_);clear hK K;try simp only[Act.put,sL]
 refine wpAnyH_ready (rs:=[20]) (by kernel_rfl) (by simp) ?_;refine AllReadyH.cons rfl (fun K hK=>?_) AllReadyH.nil
 refine Y4 _ (by rfl) _ _ _ (by rfl) B 5 i5 (.int .u8 0) 1 1 underlying22 hi hz0 hz1 hz2 rfl (by omega) (.slice a k cp) k (out.map (Value.int .u8)) (by rfl) (by exact HOW.out) ad n (E.cap-t) (news.map (Value.int .u8)) (by rfl) (by simp[hnl]) (by exact HNA.out) (by intro u hu;simp at hu;obtain⟨x,-,rfl⟩:=hu;rfl) (by unfold maxLen;omega) (by omega) (by exact hB3) w3.heap.size (by rfl) ?_
 intro ao cp2 w5 hown1 hgrow hat
 have hgx:=Gv w3 (q+1) none;obtain⟨e0,-⟩:=HT3.out.grow_cell hgx hgrow 0;rw[d0] at e0;obtain⟨e4,z4⟩:=HT3.out.grow_cell hgx hgrow 4;rw[d4] at e4;obtain⟨e1,z1⟩:=HT3.out.grow_cell hgx hgrow 1;rw[d1] at e1;obtain⟨hs2,hk2⟩:=HT3.out.grow2 hgx hgrow (.slice ao (k+n:Nat) cp2) hat
 have HS2:Hid (_/\Kept E.S _ _ w3 _):=⟨hs2,hk2⟩;have HO:Hid (World.ownsRow _ B 5 1 _ _ _):=uq hown1 E.S 4 (.slice ao (k+n:Nat) cp2) hs2.Sv;clear hs2 hk2 hown1 hgrow hat hgx;refine hK.out _ _ ⟨e0,e1⟩ (fun hHeld3=>?_);clear hK K hHeld hHeld2;try simp only[Act.put,sL]
 refine wpAnyH_take (i:=21) (v:=?_) rfl (by kernel_rfl) (by kernel_rfl) (by kernel_rfl) (fun _ _ _ h=>h) (Or.inl ⟨by rfl,?_⟩) hHeld3 ?_;rotate_left
 ·rintro w ⟨s0,s1⟩;go_simp;rfl
 try simp only[Act.put,sL]
 refine wpAnyH_take (i:=22) (v:=?_) rfl (by kernel_rfl) (by kernel_rfl) (by kernel_rfl) (fun _ _ _ h=>h) (Or.inl ⟨by rfl,?_⟩) hHeld3 ?_;rotate_left
 ·rintro w ⟨s0,s1⟩;go_simp;rfl
 try simp only[Act.put,sL]
 refine wpAnyH_ready (rs:=[23]) (by kernel_rfl) (by simp) ?_;refine AllReadyH.cons rfl (fun K hK=>?_) AllReadyH.nil;go_simp;refine hK.out _ _ ⟨(z8 _ (by omega)).trans e0,(z8 _ (by omega)).trans e1⟩ (fun hHeld4=>?_);clear hK K;try simp only[Act.put,sL]
 refine wpAnyH_done (by kernel_rfl) ?_ _;clear hHeld3 hHeld4 e0;go_wp2;go_end0;have hkl:(out++news).map (Value.int .u8)=out.map (Value.int .u8)++news.map (Value.int .u8):=by simp
 have hln:(out++news).length=k+n:=by simp[hko,hnl]
 have HO2:=HO.out;rw[<-hkl] at HO2;have hne4:some E.S ≠ (Value.slice ao (k+n:Nat) cp2).ownBlock:=HS2.out.1.Sv;rw[<-HTt.out,<-HNW.out];refine⟨rfl,_,⟨⟨t+n,hold3,held3,HS2.out.1.set1 (t+n) (by simp),by rw[H03.out];rfl,by omega,htn,?_⟩,?_,?_,?_,?_⟩,((HK3.out.weak _).trans HS2.out.2).set 1 _⟩
 ·show _=_;rw[H03.out,HH0.out,Z8]
 ·rw[hln];exact uq HO2 E.S 1 _ hne4
 ·intro x hx;rcases WqX.1 hx with hx | hx
  ·exact hisB x hx
  exact HNB.out x hx
 ·have:=HS2.out.2.size;simp[World.setCell] at this ⊢;omega
 rw[hln];push_cast;omega
theorem Str.frame {w w':World} {E:Env} {nx hold held:Nat} {v:Value} (h:Str w E nx hold held v) (hS:w'.heap[E.S]? = w.heap[E.S]?) (hI:w'.heap[E.ib]? = w.heap[E.ib]?) (hs:w.heap.size<=w'.heap.size):Str w' E nx hold held v :=
 have c:∀ i,w'.cell? ⟨E.S,i,none⟩=w.cell? ⟨E.S,i,none⟩:=fun i=>World.cell?_of_block (a:=⟨E.S,i,none⟩) hS
 ⟨(c 0).trans h.c0,(c 1).trans h.c1,(c 2).trans h.c2,(c 3).trans h.c3,(c 4).trans h.c4,(c 5).trans h.c5,(c 6).trans h.c6,fun i=>(World.frozen?_of_block (a:=⟨E.S,i,none⟩) hS).trans (h.fz i),
  fun j hj=>(World.cell?_of_block (a:=⟨E.ib,E.io+j,none⟩) hI).trans (h.src j hj),h.ibS,h.ibv,by have:=h.ibl;omega,by have:=h.Sl;omega,h.Sv⟩
theorem Rd.frame {w w':World} {E:Env} {p:Nat} {v:Value} (h:Rd w E p v) (hS:w'.heap[E.S]? = w.heap[E.S]?) (hI:w'.heap[E.ib]? = w.heap[E.ib]?) (hs:w.heap.size<=w'.heap.size):Rd w' E p v:=by
 obtain⟨a,b,c,d,e⟩:=h;exact⟨a,b,c,d.frame hS hI hs,e⟩
theorem Rd.lt {w:World} {E:Env} {p:Nat} {v:Value} (h:Rd w E p v):E.S<w.heap.size/\E.ib<w.heap.size:=by
 obtain⟨a,b,c,d,e⟩:=h;exact⟨d.Sl,d.ibl⟩
theorem Rd.below {w w':World} {E:Env} {p:Nat} {v:Value} (h:Rd w E p v) (hb:Below w.heap.size w w'):Rd w' E p v:=h.frame (hb.block _ h.lt.1) (hb.block _ h.lt.2) hb.size
theorem Rd.set {w:World} {E:Env} {p:Nat} {v:Value} (h:Rd w E p v) (T i:Nat) (u:Value) (h1:E.S ≠ T) (h2:E.ib ≠ T):Rd (w.setCell ⟨T,i,none⟩ u) E p v :=
 h.frame (Below.heap_setCell w ⟨T,i,none⟩ u _ h1) (Below.heap_setCell w ⟨T,i,none⟩ u _ h2) (by simp[World.setCell])
theorem Kept.set2 {S:Nat} {v v':Value} {w w':World} (h:Kept S v v' w w') (T i:Nat) (u:Value) (hT:w.heap.size<=T):Kept S v v' w (w'.setCell ⟨T,i,none⟩ u) :=
 ⟨h.os,h.tape,h.output,by simpa [World.setCell] using h.size,fun k h1 h2 h3=>(Below.heap_setCell w' ⟨T,i,none⟩ u k (by simp;omega)).trans (h.block k h1 h2 h3),h.row⟩
def vv (zs:List Int) (p:Nat):Nat->List Nat
 | 0=>WqV 19 0
 | k+1=>(vv zs p k).set (third.getD k 0) (zZ zs (p+3*k) 3)
theorem Y5 (zs:List Int) (p:Nat):∀ k,(vv zs p k).length=19
 | 0=>by simp[vv]
 | k+1=>by rw[vv,List.length_set,Y5 zs p k]
theorem zqw (zs:List Int) (p:Nat):∀ k,∀ x ∈ vv zs p k,x<=7
 | 0,x,hx=>by rw[vv] at hx;have:=Wy5 hx;omega
 | k+1,x,hx=>by
  rw[vv] at hx;rcases List.mem_or_eq_of_mem_set hx with h | h
  ·exact zqw zs p k x h
  rw[h];have:=y8 zs (p+3*k) 3;omega
theorem PY:∀ i,i<19->third.getD i 0<19:=by decide
theorem Xk (E:Env) (p n:Nat) (v:Value) (w:World) (hz:IsB E.zs) (hl:E.zs.length<=400000) (h:Rd w E p v) (ht:Qu w E v) (hn:n<=19) (hp:p+3*n<=8*E.zs.length) :
  Calls prog 156 #[.pointer (some ⟨E.S,0,none⟩),.int .i64 n] w fun e w'=>Kept E.S (.bool true) (.bool true) w w'/\Rd w' E (p+3*n) v/\
   ((yW (z7 (vv E.zs p n))=true/\∃ L,e=.returned (jj L)/\New w w' E.S L (z7 (vv E.zs p n)) (qx (vv E.zs p n))) ∨ (yW (z7 (vv E.zs p n))=false/\e=.panicked (j4 10))):=by
 obtain⟨i3,hi,hz0,hz1,hz2⟩:=info_parts info3;have hSl:=h.lt;go_enter func156,ntmps156;go_wp2_with (at_make;refine wpList_make_full _ rfl _ _ 23 rfl w.heap.size 3 i3 (.int .i64 0) 1 underlying23 hi hz0 hz1 _ _ _ _ 19 rfl rfl ?c1 ?c2 ?c3 ?c4 ?c5 ?_)
 case c1=>rfl
 case c2=>rfl
 case c3=>rw[hz2];omega
 case c4=>unfold maxLen;omega
 case c5=>exact WzV _
 intro w2 hown hgrow;have hb2:Below w.heap.size w w2:=(Below.refl _ _).grown hgrow (WzV _) (fun k h=>by cases h);have HH:Hid (w2.heap[w.heap.size]? = some (.cells (arr (vv E.zs p 0)).toArray 3 (0,0))):=by rw[vv];exact Ku hown
 have HR2:Hid (Rd w2 E p v):=h.below hb2;have HK2:Hid (Kept E.S (.bool true) (.bool true) w w2):=Kept.of_below hb2;clear hown hgrow hb2;go_wp2;go_loopw [9] (fun i wr=>∃ k:Nat,k<=n/\i=.int .i64 k/\Hid (wr.heap[w.heap.size]? = some (.cells (arr (vv E.zs p k)).toArray 3 (0,0)))/\Hid (Rd wr E (p+3*k) v)/\Hid (Kept E.S (.bool true) (.bool true) w wr)) (fun i _=>n-(intOf i).toNat)
 case atStart=>exact⟨0,by omega,rfl,HH,HR2,HK2⟩
 case round =>
 obtain⟨k,hk,rfl,H,HR,HK⟩:=hrel;clear HH HR2 HK2;by_cases hlt:k<n
 ·have hltZ:(k:Int)<n:=by omega
  have hk19:(k:Int)<19:=by omega
  have htr:=ht.kept (HK.out.weak v);have ct:=htr.t6 k (by omega);have hq:=PY k (by omega);obtain⟨q,HQ⟩:=nn_ (third.getD k 0);rw[<-HQ.out] at ct hq;have hqZ:(q:Int)<19:=by omega
  have h6:w.heap.size ≠ 6:=by have:=ht.a6.lt;omega
  have hTS:E.S ≠ w.heap.size:=by omega
  have hTI:E.ib ≠ w.heap.size:=by omega
  have HLT:Hid (w.heap.size<wr.heap.size):=by
   rcases WzW w.heap.size wr.heap.size with h | h
   ·exact h
   have:=H.out;rw[Array.getElem?_eq_none h] at this;cases this
  go_wp2
  go_region_held3 (fun w'=>w'.cell? ⟨6,k,none⟩=some (.int .i64 q)) (first | go_keep | (rw[World.cell?_setCell_other _ _ _ _ (by intro e;simp only[Addr.mk.injEq] at e;exact h6 e.1)];assumption)) (first | (go_at_call 136;refine(qX E (p+3*k) 3 v _ hz hl (by omega) ?_ (by omega)).mono ?_;(first | exact HR.out | exact HR.out.drewN _ | exact HR.out.drew);rintro e w3 ⟨rfl,r3,k3⟩;have k3':Kept E.S (.bool true) (.bool true) wr w3:=(by first | exact k3 | exact(Kept.refl _ _ _).drew.trans k3);have d6:w3.cell? ⟨6,k,none⟩=some (.int .i64 q):=((k3'.weak v).cell (p:=⟨6,k,none⟩) htr.a6.lt htr.a6.neS htr.a6.nev).trans ct;have H3:Hid (w3.heap[w.heap.size]? = some (.cells (arr (vv E.zs p k)).toArray 3 (0,0))):=(k3'.all _ HLT.out (Ne.symm hTS)).trans H.out;have HR3:Hid (Rd w3 E (p+3*k+3) v):=r3;have HK3:Hid (Kept E.S (.bool true) (.bool true) w w3):=HK.out.trans k3';have e3:=zy H3.out q (by rw[Y5];exact hq);have f3:=frozen_of_row w3 w.heap.size q _ 3 H3.out;clear r3 k3 k3'))
  all_goals
   go_wp2;go_roundw;case rel =>
    refine⟨k+1,by omega,by go_num,?_,?_,HK3.out.set2 _ _ _ (WzV _)⟩
    ·show _=_;rw[heap_setCell_same w3 _ _ _ _ _ H3.out,vv,<-HQ.out,<-jy]
    show Rd _ _ _ _;rw[show p+3*(k+1)=p+3*k+3 from by omega];exact HR3.out.set _ _ _ hTS hTI
   case measure=>simp[intOf];omega
 obtain rfl:k=n:=by omega
 have hat:AtI wr w.heap.size 0 (vv E.zs p k):=fun i hi=>by rw[Nat.zero_add];exact zy H.out i hi
 have HLT:Hid (w.heap.size<wr.heap.size):=by
  rcases WzW w.heap.size wr.heap.size with h | h
  ·exact h
  have:=H.out;rw[Array.getElem?_eq_none h] at this;cases this
 have hlen:=Y5 E.zs p k;have h15:∀ x ∈ vv E.zs p k,x<=15:=fun x hx=>by have:=zqw E.zs p k x hx;omega
 cases hwh:yW (z7 (vv E.zs p k)) with
 | true =>
  go_wp2_with fail
  rw[<-hlen];refine(ZW E.S w.heap.size 0 _ (vv E.zs p k) wr (by omega) h15 hat HLT.out hwh).mono ?_;rintro e w3 ⟨L,rfl,hb3,hL⟩;have HF:Hid (Kept E.S (.bool true) (.bool true) w w3/\Rd w3 E (p+3*k) v/\New w w3 E.S L (z7 (vv E.zs p k)) (qx (vv E.zs p k))):=⟨HK.out.trans (Kept.of_below hb3),HR.out.below hb3,hL.mono HK.out.size⟩;clear hb3 hL;go_wp2;go_ret
  exact⟨HF.out.1,HF.out.2.1,.inl ⟨hwh,L,rfl,HF.out.2.2⟩⟩
 | false =>
  go_wp2_with fail
  rw[<-hlen];refine(Gj E.S w.heap.size 0 _ (vv E.zs p k) wr (by omega) h15 hat HLT.out hwh).mono ?_;rintro e w3 ⟨rfl,hb3⟩;exact⟨rfl,HK.out.trans (Kept.of_below hb3),HR.out.below hb3,.inr ⟨hwh,rfl⟩⟩
theorem Jq (E:Env) (p n:Nat) (v:Value) (w:World) (hz:IsB E.zs) (hl:E.zs.length<=400000) (h:Rd w E p v) (ht:Qu w E v) (hn:n<=19) (hp:8*E.zs.length<p+3*n) (hp0:p<=8*E.zs.length) :
  Calls prog 156 #[.pointer (some ⟨E.S,0,none⟩),.int .i64 n] w fun e w'=>e=.panicked (j4 10)/\Kept E.S (.bool true) (.bool true) w w':=by
 obtain⟨i3,hi,hz0,hz1,hz2⟩:=info_parts info3;have hSl:=h.lt;go_enter func156,ntmps156;go_wp2_with (at_make;refine wpList_make_full _ rfl _ _ 23 rfl w.heap.size 3 i3 (.int .i64 0) 1 underlying23 hi hz0 hz1 _ _ _ _ 19 rfl rfl ?c1 ?c2 ?c3 ?c4 ?c5 ?_)
 case c1=>rfl
 case c2=>rfl
 case c3=>rw[hz2];omega
 case c4=>unfold maxLen;omega
 case c5=>exact WzV _
 intro w2 hown hgrow;have hb2:Below w.heap.size w w2:=(Below.refl _ _).grown hgrow (WzV _) (fun k h=>by cases h);have HH:Hid (w2.heap[w.heap.size]? = some (.cells (arr (vv E.zs p 0)).toArray 3 (0,0))):=by rw[vv];exact Ku hown
 have HR2:Hid (Rd w2 E p v):=h.below hb2;have HK2:Hid (Kept E.S (.bool true) (.bool true) w w2):=Kept.of_below hb2;clear hown hgrow hb2;go_wp2
 go_loopw [9] (fun i wr=>∃ k:Nat,k<=n/\p+3*k<=8*E.zs.length/\i=.int .i64 k/\Hid (wr.heap[w.heap.size]? = some (.cells (arr (vv E.zs p k)).toArray 3 (0,0)))/\Hid (Rd wr E (p+3*k) v)/\Hid (Kept E.S (.bool true) (.bool true) w wr)) (fun i _=>n-(intOf i).toNat)
 case atStart=>exact⟨0,by omega,by omega,rfl,HH,HR2,HK2⟩
 case round =>
 obtain⟨k,hk,hk8,rfl,H,HR,HK⟩:=hrel;clear HH HR2 HK2;by_cases hlt:k<n;rotate_left
 ·omega
 have hltZ:(k:Int)<n:=by omega
 have hk19:(k:Int)<19:=by omega
 have htr:=ht.kept (HK.out.weak v);have ct:=htr.t6 k (by omega);have hq:=PY k (by omega);obtain⟨q,HQ⟩:=nn_ (third.getD k 0);rw[<-HQ.out] at ct hq;have hqZ:(q:Int)<19:=by omega
 have h6:w.heap.size ≠ 6:=by have:=ht.a6.lt;omega
 have hTS:E.S ≠ w.heap.size:=by omega
 have hTI:E.ib ≠ w.heap.size:=by omega
 have HLT:Hid (w.heap.size<wr.heap.size):=by
  rcases WzW w.heap.size wr.heap.size with h | h
  ·exact h
  have:=H.out;rw[Array.getElem?_eq_none h] at this;cases this
 by_cases hroom:p+3*k+3<=8*E.zs.length
 ·have hp':=hroom;go_wp2
  go_region_held3 (fun w'=>w'.cell? ⟨6,k,none⟩=some (.int .i64 q)) (first | go_keep | (rw[World.cell?_setCell_other _ _ _ _ (by intro e;simp only[Addr.mk.injEq] at e;exact h6 e.1)];assumption)) (first | (go_at_call 136;refine(qX E (p+3*k) 3 v _ hz hl (by omega) ?_ (by omega)).mono ?_;(first | exact HR.out | exact HR.out.drewN _ | exact HR.out.drew);rintro e w3 ⟨rfl,r3,k3⟩;have k3':Kept E.S (.bool true) (.bool true) wr w3:=(by first | exact k3 | exact(Kept.refl _ _ _).drew.trans k3);have d6:w3.cell? ⟨6,k,none⟩=some (.int .i64 q):=((k3'.weak v).cell (p:=⟨6,k,none⟩) htr.a6.lt htr.a6.neS htr.a6.nev).trans ct;have H3:Hid (w3.heap[w.heap.size]? = some (.cells (arr (vv E.zs p k)).toArray 3 (0,0))):=(k3'.all _ HLT.out (Ne.symm hTS)).trans H.out;have HR3:Hid (Rd w3 E (p+3*k+3) v):=r3;have HK3:Hid (Kept E.S (.bool true) (.bool true) w w3):=HK.out.trans k3';have e3:=zy H3.out q (by rw[Y5];exact hq);have f3:=frozen_of_row w3 w.heap.size q _ 3 H3.out;clear r3 k3 k3'))
  all_goals
   go_wp2;go_roundw;case rel =>
    refine⟨k+1,by omega,by omega,by go_num,?_,?_,HK3.out.set2 _ _ _ (WzV _)⟩
    ·show _=_;rw[heap_setCell_same w3 _ _ _ _ _ H3.out,vv,<-HQ.out,<-jy]
    show Rd _ _ _ _;rw[show p+3*(k+1)=p+3*k+3 from by omega];exact HR3.out.set _ _ _ hTS hTI
   case measure=>simp[intOf];omega
 go_wp2
 go_region_with (first | (go_at_call 136;refine(y5 E (p+3*k) 3 v _ hz hl (by omega) ?_ (by omega)).mono ?_;(first | exact HR.out | exact HR.out.drewN _ | exact HR.out.drew);rintro e w3 ⟨rfl,k3⟩;have HK3:Hid (Kept E.S (.bool true) (.bool true) w w3):=(by first | exact HK.out.trans k3 | exact HK.out.drew.trans k3 | exact(HK.out.drewN _).trans k3);clear k3;refine ZK ⟨rfl,rfl,HK3.out⟩ ?_))
 all_goals exact trivial
def Y6 (zs:List Int) (p y:Nat) (row:List Nat):Option (Nat × Nat × Nat) :=
 if y=16 then (if row.length=0 then none else if 8*zs.length<p+2 then none else some (row.getD (row.length-1) 0,3+zZ zs p 2,p+2))
 else if y=17 then (if 8*zs.length<p+3 then none else some (0,3+zZ zs p 3,p+3))
 else if y=18 then (if 8*zs.length<p+7 then none else some (0,11+zZ zs p 7,p+7))
 else some (y,1,p)
theorem M3 {a b c d:Int} (h1:a=c) (h2:b=d):Ending.returned (.tuple #[.int .i64 a,.int .i64 b])=.returned (.tuple #[.int .i64 c,.int .i64 d]):=by rw[h1,h2]
theorem UX (E:Env) (p y m cp R:Nat) (a:Option Addr) (v:Value) (row:List Nat) (w:World) (hz:IsB E.zs) (hl:E.zs.length<=400000) (h:Rd w E p v) (hy:y<=400) (hm:row.length=m) (hm4:m<=400)
    (hr:0<m->a=some ⟨R,0,none⟩/\R<w.heap.size/\R ≠ E.S/\w.cell? ⟨R,m-1,none⟩=some (.int .i64 (row.getD (m-1) 0:Nat))) :
    Calls prog 170 #[.pointer (some ⟨E.S,0,none⟩),.int .i64 y,.slice a m cp] w fun e w'=>Kept E.S (.bool true) (.bool true) w w'/\
      match Y6 E.zs p y row with
      | some (x,t,q)=>e=.returned (.tuple #[.int .i64 (x:Nat),.int .i64 (t:Nat)])/\Rd w' E q v
      | none=>e=.panicked (j4 10):=by
  have HK0:Hid (Kept E.S (.bool true) (.bool true) w w):=Kept.refl _ _ _
  unfold Y6
  by_cases h16:y=16
  · subst h16
    rw[if_pos rfl,hm]
    by_cases hm0:m=0
    · subst hm0
      rw[if_pos rfl]
      go_enter func170,ntmps170
      go_wp2
      exact⟨rfl,HK0.out,rfl⟩
    · rw[if_neg hm0]
      obtain⟨rfl,hR1,hR2,hc⟩:=hr (by omega)
      obtain⟨x,HX⟩:=nn_ (row.getD (m-1) 0)
      rw[<-HX.out] at hc ⊢
      obtain⟨q,HQ⟩:=nn_ (m-1)
      have hq:=HQ.out
      have hwr:IntKind.i64.wrap ((m:Int)-1)=(q:Int):=by rw[show (m:Int)-1=(q:Int) from by omega];exact Plain.wrap_small q (by omega)
      have hq1:(q:Int)<(m:Int):=by omega
      have hm0':((m:Int) == 0)=false:=by simp;omega
      rw[<-HQ.out] at hc
      clear hq hr
      by_cases hb:8*E.zs.length<p+2
      · rw[if_pos hb]
        go_enter func170,ntmps170
        go_wp2
        go_region_with (first | (go_at_call 136;refine(y5 E p 2 v _ hz hl (by omega) ?_ hb).mono ?_;(first | exact h | exact h.drewN _ | exact h.drew);rintro e w3 ⟨rfl,k3⟩;have HK3:Hid (Kept E.S (.bool true) (.bool true) w w3):=(by first | exact k3 | exact(Kept.refl _ _ _).drew.trans k3 | exact((Kept.refl _ _ _).drewN _).trans k3);clear k3;refine ZK ⟨rfl,HK3.out,rfl⟩ ?_))
        all_goals exact trivial
      · rw[if_neg hb]
        have gb:zZ E.zs p 2<=3:=by have:=y8 E.zs p 2;omega
        have hwa:IntKind.i64.wrap (3+((zZ E.zs p 2:Nat):Int))=((3+zZ E.zs p 2:Nat):Int):=by rw[show (3:Int)+((zZ E.zs p 2:Nat):Int)=((3+zZ E.zs p 2:Nat):Int) from by omega];exact Plain.wrap_small _ (by omega)
        go_enter func170,ntmps170
        go_wp2
        go_region_held3 (fun w'=>w'.cell? ⟨R,q,none⟩=some (.int .i64 x)) (go_keep) (first | (go_at_call 136;refine(qX E p 2 v _ hz hl (by omega) ?_ (by omega)).mono ?_;(first | exact h | exact h.drewN _ | exact h.drew);rintro e w3 ⟨rfl,r3,k3⟩;have k3':Kept E.S (.bool true) (.bool true) w w3:=(by first | exact k3 | exact(Kept.refl _ _ _).drew.trans k3);have d6:w3.cell? ⟨R,q,none⟩=some (.int .i64 x):=(World.cell?_of_block (a:=⟨R,q,none⟩) (k3'.all R hR1 hR2)).trans hc;have HR3:Hid (Rd w3 E (p+2) v):=r3;have HK3:Hid (Kept E.S (.bool true) (.bool true) w w3):=k3';clear r3 k3 k3'))
        all_goals
          go_wp2
          go_ret2
          exact⟨HK3.out,rfl,HR3.out⟩
  · rw[if_neg h16]
    by_cases h17:y=17
    · subst h17
      rw[if_pos rfl]
      by_cases hb:8*E.zs.length<p+3
      · rw[if_pos hb]
        go_enter func170,ntmps170
        go_wp2_with fail
        refine(y5 E p 3 v w hz hl (by omega) h hb).mono ?_
        rintro e w3 ⟨rfl,k3⟩
        exact⟨rfl,k3,rfl⟩
      · rw[if_neg hb]
        have gb:zZ E.zs p 3<=7:=by have:=y8 E.zs p 3;omega
        obtain⟨g,HG⟩:=nn_ (zZ E.zs p 3)
        rw[<-HG.out] at gb ⊢
        go_enter func170,ntmps170
        go_wp2_with fail
        refine(qX E p 3 v w hz hl (by omega) h (by omega)).mono ?_
        rintro e w3 ⟨rfl,r3,k3⟩
        have HR3:Hid (Rd w3 E (p+3) v):=r3
        have HK3:Hid (Kept E.S (.bool true) (.bool true) w w3):=k3
        rw[<-HG.out]
        clear r3 k3
        go_wp2
        go_ret2
        exact⟨HK3.out,M3 rfl (by omega),HR3.out⟩
    rw[if_neg h17]
    by_cases h18:y=18
    · subst h18
      rw[if_pos rfl]
      by_cases hb:8*E.zs.length<p+7
      · rw[if_pos hb]
        go_enter func170,ntmps170
        go_wp2_with fail
        refine(y5 E p 7 v w hz hl (by omega) h hb).mono ?_
        rintro e w3 ⟨rfl,k3⟩
        exact⟨rfl,k3,rfl⟩
      · rw[if_neg hb]
        have gb:zZ E.zs p 7<=127:=by have:=y8 E.zs p 7;omega
        obtain⟨g,HG⟩:=nn_ (zZ E.zs p 7)
        rw[<-HG.out] at gb ⊢
        go_enter func170,ntmps170
        go_wp2_with fail
        refine(qX E p 7 v w hz hl (by omega) h (by omega)).mono ?_
        rintro e w3 ⟨rfl,r3,k3⟩
        have HR3:Hid (Rd w3 E (p+7) v):=r3
        have HK3:Hid (Kept E.S (.bool true) (.bool true) w w3):=k3
        rw[<-HG.out]
        clear r3 k3
        go_wp2
        go_ret2
        exact⟨HK3.out,M3 rfl (by omega),HR3.out⟩
    rw[if_neg h18]
    have e16:((y:Int) == 16)=false:=by simp;omega
    have e17:((y:Int) == 17)=false:=by simp;omega
    have e18:((y:Int) == 18)=false:=by simp;omega
    have HR:Hid (Rd w E p v):=h
    go_enter func170,ntmps170
    go_wp2
    go_ret2
    exact⟨HK0.out,rfl,HR.out⟩
def Jj (dc:Nat->Option (Nat × Nat)) (zs:List Int) (size:Nat):Nat->Nat->List Nat->Option (Nat × List Nat)
 | 0,p,row=>if row.length<size then none else some (p,row)
 | f+1,p,row =>
  if row.length<size then
   match dc p with
   | none=>none
   | some (y,p1) =>
    match Y6 zs p1 y row with
    | none=>none
    | some (x,t,q)=>if size-row.length<t then none else Jj dc zs size f q (row++WqV t x)
  else some (p,row)
theorem O7 {zs:List Int} {p y x t q:Nat} {row:List Nat} (h:Y6 zs p y row=some (x,t,q)):1<=t/\t<=138:=by
 unfold Y6 at h;have g2:=y8 zs p 2;have g3:=y8 zs p 3;have g7:=y8 zs p 7;by_cases h16:y=16
 ·rw[if_pos h16] at h;by_cases h0:row.length=0
  ·rw[if_pos h0] at h;cases h
  rw[if_neg h0] at h;by_cases h1:8*zs.length<p+2
  ·rw[if_pos h1] at h;cases h
  rw[if_neg h1] at h;simp only[Wq9.injEq,Prod.mk.injEq] at h;omega
 rw[if_neg h16] at h;by_cases h17:y=17
 ·rw[if_pos h17] at h;by_cases h1:8*zs.length<p+3
  ·rw[if_pos h1] at h;cases h
  rw[if_neg h1] at h;simp only[Wq9.injEq,Prod.mk.injEq] at h;omega
 rw[if_neg h17] at h;by_cases h18:y=18
 ·rw[if_pos h18] at h;by_cases h1:8*zs.length<p+7
  ·rw[if_pos h1] at h;cases h
  rw[if_neg h1] at h;simp only[Wq9.injEq,Prod.mk.injEq] at h;omega
 rw[if_neg h18] at h;simp only[Wq9.injEq,Prod.mk.injEq] at h;omega
theorem zqy {zs:List Int} {p y x t q:Nat} {row:List Nat} (h:Y6 zs p y row=some (x,t,q)) (hy:y<19) (hr:∀ z ∈ row,z<=15):x<=15:=by
 unfold Y6 at h;by_cases h16:y=16
 ·rw[if_pos h16] at h;by_cases h0:row.length=0
  ·rw[if_pos h0] at h;cases h
  rw[if_neg h0] at h;by_cases h1:8*zs.length<p+2
  ·rw[if_pos h1] at h;cases h
  rw[if_neg h1] at h;simp only[Wq9.injEq,Prod.mk.injEq] at h;rw[<-h.1,List.getD_eq_getElem?_getD,List.getElem?_eq_getElem (by omega)];exact hr _ (List.getElem_mem _)
 rw[if_neg h16] at h;by_cases h17:y=17
 ·rw[if_pos h17] at h;by_cases h1:8*zs.length<p+3
  ·rw[if_pos h1] at h;cases h
  rw[if_neg h1] at h;simp only[Wq9.injEq,Prod.mk.injEq] at h;omega
 rw[if_neg h17] at h;by_cases h18:y=18
 ·rw[if_pos h18] at h;by_cases h1:8*zs.length<p+7
  ·rw[if_pos h1] at h;cases h
  rw[if_neg h1] at h;simp only[Wq9.injEq,Prod.mk.injEq] at h;omega
 rw[if_neg h18] at h;simp only[Wq9.injEq,Prod.mk.injEq] at h;omega
theorem KW {cnt srt:List Nat} {zs:List Int} (hs:∀ i,srt.getD i 0<19):∀ (f n b first passed p y p':Nat),vW cnt srt zs f n b first passed p=some (y,p')->y<19
 | 0,_,_,_,_,_,_,_,h=>by simp[vW] at h
 | f+1,n,b,first,passed,p,y,p',h=>by
  rw[vW] at h;split at h
  ·simp at h
  split at h
  ·simp only[Wq9.injEq,Prod.mk.injEq] at h;rw[<-h.1];exact hs _
  exact KW hs f _ _ _ _ _ _ _ h
theorem zqu {cnt srt:List Nat} {zs:List Int} {p y p':Nat} (h:dec cnt srt zs p=some (y,p')) (hs:∀ i,srt.getD i 0<19):y<19:=KW hs _ _ _ _ _ _ _ _ h
theorem Bu {w w':World} {B:Nat} {e:TypeId} {s:Nat} {v:Value} {n:Nat} {xs:List Value} (h:w.ownsRow B e s v n xs) (hb:Below w.heap.size w w'):w'.ownsRow B e s v n xs :=
 h.kept (row:=none) ⟨hb.os,hb.tape,hb.output,hb.size,fun k hk _=>hb.block k hk⟩ (by
  cases hv:v.ownBlock with
  | none=>exact .inl rfl
  | some k=>exact .inr (by simp))
theorem M4 {w:World} {B S:Nat} {e:TypeId} {s:Nat} {v:Value} {n:Nat} {xs:List Value} (h:w.ownsRow B e s v n xs) (hS:S<B):some S ≠ v.ownBlock:=fun e=>by have:=(h.lt S e.symm).1;omega
theorem zj7 (a b:List Nat):arr (a++b)=arr a++arr b:=by simp[arr]
theorem M5 (E:Env) (p size:Nat) (v:Value) (w:World) (hz:IsB E.zs) (hl:E.zs.length<=400000) (h:Rd w E p v) (hs:size<=400) (hvb:∀ k,v.ownBlock=some k->k<w.heap.size)
    (L:Loc) (cl sl:List Nat) (hcl:uz w E v L cl sl) (okl:U1 cl sl) (hsl:∀ i,sl.getD i 0<19) :
    Calls prog 155 #[.pointer (some ⟨E.S,0,none⟩),.func (.func 174) #[] #[.pointer (some ⟨L.bs,0,none⟩),.pointer (some ⟨L.bc,0,none⟩),.pointer (some ⟨L.bd,0,none⟩)],.int .i64 size] w fun e w'=>Kept E.S (.bool true) (.bool true) w w'/\
      match Jj (dec cl sl E.zs) E.zs size size p [] with
      | some (q,row)=>Rd w' E q v/\row.length=size/\(∀ z ∈ row,z<=15)/\∃ vr,e=.returned vr/\w'.ownsRow w.heap.size 3 1 vr size (arr row)
      | none=>e=.panicked (j4 10):=by
  obtain⟨i3,hi,hz0,hz1,hz2⟩:=info_parts info3
  have hSl:=h.lt
  obtain⟨r,HR0⟩:=nm_ (Jj (dec cl sl E.zs) E.zs size size p [])
  rw[HR0.out]
  go_enter func155,ntmps155
  go_wp2
  go_loopg [7] size (fun k vr wr=>∃ (f p' m cp:Nat) (a:Option Addr) (row:List Nat),vr=.slice a m cp/\Hid (row.length=m)/\k=size-m/\m<=size/\size-m<=f/\Hid (∀ z ∈ row,z<=15)/\Hid (Jj (dec cl sl E.zs) E.zs size f p' row=r)/\Hid (Rd wr E p' v)/\Hid (Kept E.S (.bool true) (.bool true) w wr)/\Hid (wr.ownsRow w.heap.size 3 1 (.slice a m cp) m (arr row)))
  case atStart=>exact⟨size,p,0,0,none,[],rfl,rfl,by simp,by simp,by simp,by simp[Hid],HR0,h,Kept.refl _ _ _,World.ownsRow_nil _ _ _ _⟩
  case round =>
    obtain⟨f,p',m,cp,a,row,rfl,Hm,hk,hms,hf,H15,HF,HR,HK,HO⟩:=hrel
    have E0:=HF.out
    by_cases hlt:m<size
    · obtain⟨f,rfl⟩:∃ f',f=f'+1:=⟨f-1,by omega⟩
      rw[Jj,if_pos (by rw[Hm.out];exact hlt)] at E0
      have hltZ:(m:Int)<size:=by omega
      have hc0:=hcl.kept (HK.out.weak v)
      cases hd:dec cl sl E.zs p' with
      | none =>
        rw[hd] at E0
        simp only[] at E0
        subst E0
        go_wp2_with fail
        refine(TV E L cl sl p' v wr hz hl HR.out hc0 okl hd).mono ?_
        rintro e w1 ⟨rfl,k1⟩
        exact⟨rfl,HK.out.trans k1,rfl⟩
      | some yp =>
        obtain⟨y,p1⟩:=yp
        have hy19:=zqu hd hsl
        rw[hd] at E0
        simp only[] at E0
        go_wp2_with fail
        refine(B5 E L cl sl p' y p1 v wr hz hl HR.out hc0 okl hd).mono ?_
        rintro e w1 ⟨rfl,r1,k1⟩
        have HK1:Hid (Kept E.S (.bool true) (.bool true) w w1):=HK.out.trans k1
        have HO1:Hid (w1.ownsRow w.heap.size 3 1 (.slice a m cp) m (arr row)):=k1.owns HO.out (M4 HO.out hSl.1)
        have hrr:0<m->a=some ⟨(a.getD ⟨0,0,none⟩).block,0,none⟩/\(a.getD ⟨0,0,none⟩).block<w1.heap.size/\(a.getD ⟨0,0,none⟩).block ≠ E.S/\w1.cell? ⟨(a.getD ⟨0,0,none⟩).block,m-1,none⟩=some (.int .i64 (row.getD (m-1) 0:Nat)):=fun hm0=>by
          obtain⟨g,cap',hv,hg1,hg2⟩:=HO1.out.form hm0
          simp only[Value.slice.injEq] at hv
          obtain⟨rfl,_,rfl⟩:=hv
          refine⟨rfl,hg2,by have:=hSl.1;simp;omega,?_⟩
          have:=HO1.out.cellAt (m-1) (by omega)
          rw[show (Option.getD (some ({ block:=g,off:=0 } : Addr)) ⟨0,0,none⟩).block=g from rfl,this,TW row (m-1) (by rw[Hm.out];omega)]
        clear hd
        cases hrn:Y6 E.zs p1 y row with
        | none =>
          rw[hrn] at E0
          simp only[] at E0
          subst E0
          go_wp2_with fail
          refine(UX E p1 y m cp _ a v row w1 hz hl r1 (by omega) Hm.out (by omega) hrr).mono ?_
          rintro e w2 ⟨k2,he⟩
          rw[hrn] at he
          simp only[] at he
          subst he
          exact⟨rfl,HK1.out.trans k2,rfl⟩
        | some xtq =>
          obtain⟨x,t,q⟩:=xtq
          have htp:=O7 hrn
          have hx15:=zqy hrn hy19 H15.out
          rw[hrn] at E0
          simp only[] at E0
          go_wp2_with fail
          refine(UX E p1 y m cp _ a v row w1 hz hl r1 (by omega) Hm.out (by omega) hrr).mono ?_
          rintro e w2 ⟨k2,he⟩
          rw[hrn] at he
          simp only[] at he
          obtain⟨rfl,r2⟩:=he
          have HK2:Hid (Kept E.S (.bool true) (.bool true) w w2):=HK1.out.trans k2
          have HO2:Hid (w2.ownsRow w.heap.size 3 1 (.slice a m cp) m (arr row)):=k2.owns HO1.out (M4 HO1.out hSl.1)
          have HR2:Hid (Rd w2 E q v):=r2
          clear hrr hrn r1 r2 k1 k2
          rw[Hm.out] at E0
          by_cases hts:size-m<t
          · rw[if_pos hts] at E0
            subst E0
            have htsZ:(size:Int)-m<t:=by omega
            go_wp2
            exact⟨rfl,HK2.out,rfl⟩
          · rw[if_neg hts] at E0
            have HE0:Hid (_=r):=E0
            have htsZ:¬ (size:Int)-m<t:=by omega
            clear E0
            go_wp2_with fail
            refine(UQ w2.heap.size t x (w2.alloc (.cells #[.int .i64 (x:Int)] 3)) (by omega) htp.1 (by simp) (by simp)).mono ?_
            rintro e w3 ⟨g,hg0,rfl,hb3,hg3⟩
            have hb23:Below w2.heap.size w2 w3:=((Below.refl _ _).alloc (WzV _) _).trans (hb3.mono (by simp))
            have HO3:Hid (w3.ownsRow w.heap.size 3 1 (.slice a m cp) m (arr row)):=Bu HO2.out hb23
            have HK3:Hid (Kept E.S (.bool true) (.bool true) w w3):=HK2.out.trans (Kept.of_below hb23)
            have HR3:Hid (Rd w3 E q v):=HR2.out.below hb23
            have HG3:Hid (w3.heap[g]? = some (.cells (arr (WqV t x)).toArray 3 (0,0))):=hg3
            clear hb23 hb3 hg3
            go_wp2_with (at_builtin;refine wpList_append_lies _ rfl _ _ _ rfl w.heap.size 3 i3 (.int .i64 0) 1 8 underlying23 hi hz0 hz1 hz2 rfl (by omega) (.slice a m cp) m (arr row) rfl HO3.out ⟨g,0,none⟩ t t (arr (WqV t x)) rfl ?b2 ?b3 (vu _) htp.1 ?b5 ?b6 ?b7 w3.heap.size rfl ?_)
            case b2=>rw[qZ,Wy3];omega
            case b3=>exact World.news_of_block HG3.out
            case b5=>unfold maxLen;omega
            case b6=>omega
            case b7=>have:=HK3.out.size;omega
            · intro g2 cp2 w4 hown4 hgrow hat hlt4
              have hoff:∀ k,k<w.heap.size->w4.heap[k]? = w3.heap[k]? := fun k hk=>hgrow.block k (by have:=HK3.out.size;omega) (fun e=>by have:=(HO3.out.lt k e.symm).1;omega)
              have HR4:Hid (Rd w4 E q v):=HR3.out.frame (hoff _ hSl.1) (hoff _ hSl.2) hgrow.size
              have HK4:Hid (Kept E.S (.bool true) (.bool true) w w4):=⟨hgrow.os.trans HK3.out.os,hgrow.tape.trans HK3.out.tape,hgrow.output.trans HK3.out.output,Nat.le_trans HK3.out.size hgrow.size,fun k h1 h2 h3=>(hoff k h1).trans (HK3.out.block k h1 h2 h3),.inl rfl⟩
              have HO4:Hid (w4.ownsRow w.heap.size 3 1 (.slice (some ⟨g2,0,none⟩) (m+t) cp2) (m+t) (arr (row++WqV t x))):=by rw[zj7];exact hown4
              have H154:Hid (∀ z ∈ row++WqV t x,z<=15):=fun z hz=>by
                rcases WqX.1 hz with hz | hz
                · exact H15.out z hz
                · have:=Wy5 hz;omega
              clear hown4 hgrow hat hoff
              go_wp2
              go_roundg (size-(m+t))
              case measure=>omega
              case rel=>exact⟨f,q,m+t,cp2,some ⟨g2,0,none⟩,row++WqV t x,rfl,by show _=_;rw[List.length_append,Wy3,Hm.out],rfl,by omega,by omega,H154,HE0,HR4,HK4,HO4⟩
    · obtain rfl:m=size:=by omega
      have E1:r=some (p',row):=by
        rw[<-E0]
        cases f with
        | zero=>rw[Jj,if_neg (by rw[Hm.out];exact hlt)]
        | succ f=>rw[Jj,if_neg (by rw[Hm.out];exact hlt)]
      subst E1
      go_wp2
      go_ret
      exact⟨HK.out,HR.out,Hm.out,H15.out,_,rfl,HO.out⟩
end Go.Proofs.YtiaaekdpfpaigaaGreatDoor.Df
