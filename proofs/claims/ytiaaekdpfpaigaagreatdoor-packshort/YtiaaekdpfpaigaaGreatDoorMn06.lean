import Derived.Defers
import Derived.Recover
import Derived.Test.YtiaaekdpfpaigaaGreatDoorMn05
import Derived.Test.YtiaaekdpfpaigaaGreatDoorMn01
set_option linter.unusedSimpArgs false
set_option linter.unusedVariables false
set_option maxRecDepth 20000
set_option maxHeartbeats 4000000
open Nat renaming le_refl->WzV,pow_le_pow_right->Wqk,zero_add->Wq7
open Option renaming some->Wq9
namespace Go.Proofs.YtiaaekdpfpaigaaGreatDoor.Df
open Go.Proofs.Tryz
open Go.RowKit Plain
def Qj (l:List Nat):Bool:=yW (z7 l) || Kv (z7 l)
def toldOf (zs:List Int) (p:Nat):Option (List Nat × List Nat × Nat) :=
 if 8*zs.length<p+5 then none
 else if 8*zs.length<p+5+5 then none
 else if 286<zZ zs p 5+257 ∨ 30<zZ zs (p+5) 5+1 then none
 else if 8*zs.length<p+5+5+4 then none
 else if 8*zs.length<p+5+5+4+3*(zZ zs (p+5+5) 4+4) then none
 else if yW (z7 (vv zs (p+5+5+4) (zZ zs (p+5+5) 4+4)))=false then none
 else match Jj (dec (z7 (vv zs (p+5+5+4) (zZ zs (p+5+5) 4+4))) (qx (vv zs (p+5+5+4) (zZ zs (p+5+5) 4+4))) zs) zs (zZ zs p 5+257+(zZ zs (p+5) 5+1)) (zZ zs p 5+257+(zZ zs (p+5) 5+1)) (p+5+5+4+3*(zZ zs (p+5+5) 4+4)) [] with
  | none=>none
  | some (q,row) =>
   if row.getD 256 0=0 then none
   else if Qj (row.take (zZ zs p 5+257))=false then none
   else if Qj (row.drop (zZ zs p 5+257))=false then none
   else some (row.take (zZ zs p 5+257),row.drop (zZ zs p 5+257),q)
theorem KY (lens:List Nat) (h:0<lens.length):∀ k,k<=lens.length->∀ x ∈ (yk lens k).2,x<lens.length
 | 0,_,x,hx=>by rw[yk] at hx;have:=List.eq_of_mem_replicate hx;omega
 | k+1,hk,x,hx=>by
  rw[yk] at hx;unfold lay at hx;by_cases h0:0<lens.getD k 0
  ·rw[if_pos h0] at hx;rcases List.mem_or_eq_of_mem_set hx with h' | h'
   ·exact KY lens h k (by omega) x h'
   omega
  rw[if_neg h0] at hx;exact KY lens h k (by omega) x hx
theorem Y8 (lens:List Nat) (h:0<lens.length) (i:Nat):(qx lens).getD i 0<lens.length:=by
 by_cases hi:i<(qx lens).length
 ·rw[List.getD_eq_getElem?_getD,List.getElem?_eq_getElem hi];exact KY lens h _ (WzV _) _ (List.getElem_mem hi)
 rw[List.getD_eq_getElem?_getD,List.getElem?_eq_none (by omega)];simpa using h
theorem Zq (lens:List Nat) (h:lens.length<=400):U1 (z7 lens) (qx lens) :=
 ⟨fun i=>by have:=j5 lens i;omega,(U3 lens).symm,by rw[U3];have:=Qq lens;omega⟩
theorem UJ (S b off cap:Nat) (lens:List Nat) (w:World) (hl:lens.length<=400) (h15:∀ x ∈ lens,x<=15) (hat:AtI w b off lens) (hb:b<w.heap.size) (hc:Qj lens=true) :
  Calls prog 157 #[.pointer (some ⟨S,0,none⟩),.slice (some ⟨b,off,none⟩) lens.length cap] w fun e w'=>∃ L,e=.returned (jj L)/\Below w.heap.size w w'/\New w w' S L (z7 lens) (qx lens):=by
 cases hw:yW (z7 lens) with
 | true=>exact Ky S b off cap lens w hl h15 hat hb hw
 | false=>exact Gk S b off cap lens w hl h15 hat hb hw (by unfold Qj at hc;rw[hw] at hc;simpa using hc)
theorem Xv (S b off cap:Nat) (lens:List Nat) (w:World) (hl:lens.length<=400) (h15:∀ x ∈ lens,x<=15) (hat:AtI w b off lens) (hb:b<w.heap.size) (hc:Qj lens=false) :
  Calls prog 157 #[.pointer (some ⟨S,0,none⟩),.slice (some ⟨b,off,none⟩) lens.length cap] w fun e w'=>e=.panicked (j4 10)/\Below w.heap.size w w':=by
 unfold Qj at hc;rw[Bool.or_eq_false_iff] at hc;exact TY S b off cap lens w hl h15 hat hb hc.1 hc.2
theorem Gy (E:Env) (p:Nat) (v:Value) (w:World) (hz:IsB E.zs) (hl:E.zs.length<=400000) (h:Rd w E p v) (ht:Qu w E v) (hvb:∀ k,v.ownBlock=some k->k<w.heap.size) :
    Calls prog 140 #[.pointer (some ⟨E.S,0,none⟩)] w fun e w'=>Kept E.S (.bool true) (.bool true) w w'/\
      match toldOf E.zs p with
      | some (l,d,q)=>Rd w' E q v/\l.length<=400/\0<l.length/\d.length<=400/\0<d.length/\∃ L M,e=.returned (.tuple #[jj L,jj M])/\New w w' E.S L (z7 l) (qx l)/\New w w' E.S M (z7 d) (qx d)
      | none=>e=.panicked (j4 10):=by
  obtain⟨r,HR0⟩:=nm_ (toldOf E.zs p)
  rw[HR0.out]
  have E0:=HR0.out
  unfold toldOf at E0
  have hSl:=h.lt
  by_cases h5:8*E.zs.length<p+5
  · rw[if_pos h5] at E0
    subst E0
    go_enter func140,ntmps140
    go_wp2_with fail
    refine(y5 E p 5 v w hz hl (by omega) h h5).mono ?_
    rintro e w1 ⟨rfl,k1⟩
    exact⟨rfl,k1,rfl⟩
  rw[if_neg h5] at E0
  have ga:zZ E.zs p 5<=31:=by have:=y8 E.zs p 5;omega
  obtain⟨a,HA⟩:=nn_ (zZ E.zs p 5)
  rw[<-HA.out] at ga E0
  go_enter func140,ntmps140
  go_wp2_with fail
  refine(qX E p 5 v w hz hl (by omega) h (by omega)).mono ?_
  rintro e w1 ⟨rfl,r1,k1⟩
  rw[<-HA.out]
  by_cases h10:8*E.zs.length<p+5+5
  · rw[if_pos h10] at E0
    subst E0
    go_wp2_with fail
    refine(y5 E (p+5) 5 v w1 hz hl (by omega) r1 h10).mono ?_
    rintro e w2 ⟨rfl,k2⟩
    exact⟨rfl,k1.trans k2,rfl⟩
  rw[if_neg h10] at E0
  have gb:zZ E.zs (p+5) 5<=31:=by have:=y8 E.zs (p+5) 5;omega
  obtain⟨b,HB⟩:=nn_ (zZ E.zs (p+5) 5)
  rw[<-HB.out] at gb E0
  go_wp2_with fail
  refine(qX E (p+5) 5 v w1 hz hl (by omega) r1 (by omega)).mono ?_
  rintro e w2 ⟨rfl,r2,k2⟩
  rw[<-HB.out]
  have K2:=k1.trans k2
  have HK2:Hid (Kept E.S (.bool true) (.bool true) w w2):=K2
  by_cases h30:286<a+257 ∨ 30<b+1
  · rw[if_pos h30] at E0
    subst E0
    by_cases ha:(286:Int)<(a:Int)+257
    · clear h30
      go_wp2
      exact⟨rfl,HK2.out,rfl⟩
    · have hb30:(30:Int)<(b:Int)+1:=by omega
      clear h30
      go_wp2
      exact⟨rfl,HK2.out,rfl⟩
  rw[if_neg h30] at E0
  have ha':¬ (286:Int)<(a:Int)+257:=by omega
  have hb':¬ (30:Int)<(b:Int)+1:=by omega
  by_cases h14:8*E.zs.length<p+5+5+4
  · rw[if_pos h14] at E0
    subst E0
    clear h30
    go_wp2_with fail
    refine(y5 E (p+5+5) 4 v w2 hz hl (by omega) r2 h14).mono ?_
    rintro e w3 ⟨rfl,k3⟩
    exact⟨rfl,HK2.out.trans k3,rfl⟩
  rw[if_neg h14] at E0
  have gc:zZ E.zs (p+5+5) 4<=15:=by have:=y8 E.zs (p+5+5) 4;omega
  obtain⟨c,HC⟩:=nn_ (zZ E.zs (p+5+5) 4)
  rw[<-HC.out] at gc E0
  have h30':a+257<=286/\b+1<=30:=by omega
  clear h30
  go_wp2_with fail
  refine(qX E (p+5+5) 4 v w2 hz hl (by omega) r2 (by omega)).mono ?_
  rintro e w3 ⟨rfl,r3,k3⟩
  rw[<-HC.out]
  have K3:=K2.trans k3
  have t3:=ht.kept (K3.weak v)
  clear r1 r2 k1 k2 k3
  have e4:((c:Int)+4)=((c+4:Nat):Int):=by omega
  have HE4:Hid _:=e4
  clear e4
  by_cases h3:8*E.zs.length<p+5+5+4+3*(c+4)
  · rw[if_pos h3] at E0
    subst E0
    go_wp2_with fail
    rw[HE4.out]
    refine(Jq E (p+5+5+4) (c+4) v w3 hz hl r3 t3 (by omega) h3 (by omega)).mono ?_
    rintro e w4 ⟨rfl,k4⟩
    exact⟨rfl,K3.trans k4,rfl⟩
  rw[if_neg h3] at E0
  obtain⟨th,HT⟩:=nn_ (vv E.zs (p+5+5+4) (c+4))
  have hthl:th.length=19:=by rw[HT.out];exact Y5 _ _ _
  rw[<-HT.out] at E0
  cases hwh:yW (z7 th) with
  | false =>
    rw[if_pos hwh] at E0
    subst E0
    go_wp2_with fail
    rw[HE4.out]
    refine(Xk E (p+5+5+4) (c+4) v w3 hz hl r3 t3 (by omega) (by omega)).mono ?_
    rintro e w4 ⟨k4,-,he⟩
    rw[<-HT.out] at he
    rcases he with ⟨hw,_⟩ | ⟨_,rfl⟩
    · rw[hwh] at hw;cases hw
    · exact⟨rfl,K3.trans k4,rfl⟩
  | true =>
    rw[if_neg (by rw[hwh];simp)] at E0
    go_wp2_with fail
    rw[HE4.out]
    refine(Xk E (p+5+5+4) (c+4) v w3 hz hl r3 t3 (by omega) (by omega)).mono ?_
    rintro e w4 ⟨k4,r4,he⟩
    rw[<-HT.out] at he
    have he':∃ L,e=.returned (jj L)/\New w3 w4 E.S L (z7 th) (qx th):=by
      rcases he with ⟨_,L,h1,h2⟩ | ⟨hw,_⟩
      · exact⟨L,h1,h2⟩
      · rw[hwh] at hw;cases hw
    obtain⟨L,rfl,hL⟩:=he'
    clear he
    have K4:=K3.trans k4
    have hvb3:∀ k,v.ownBlock=some k->k<w3.heap.size:=fun k e=>by have:=hvb k e;have:=K3.size;omega
    have hcL:uz w4 E v L (z7 th) (qx th):=hL.codeAt (by have:=K3.size;omega) hvb3
    have hvb4:∀ k,v.ownBlock=some k->k<w4.heap.size:=fun k e=>by have:=hvb3 k e;have:=k4.size;omega
    obtain⟨size,HZ⟩:=nn_ (a+257+(b+1))
    have hsz:=HZ.out
    have HSZ:Hid ((a:Int)+257+((b:Int)+1)=((size:Nat):Int)):=by show _=_;omega
    rw[<-HZ.out] at E0
    clear hL k4 r3
    unfold jj
    go_wp2_with fail
    rw[HSZ.out]
    refine(M5 E (p+5+5+4+3*(c+4)) size v w4 hz hl r4 (by omega) hvb4 L (z7 th) (qx th) hcL (Zq th (by omega)) (fun i=>by have:=Y8 th (by omega) i;omega)).mono ?_
    rintro e w5 ⟨k5,he⟩
    cases hrow:Jj (dec (z7 th) (qx th) E.zs) E.zs size size (p+5+5+4+3*(c+4)) [] with
    | none =>
      rw[hrow] at he E0
      simp only[] at he E0
      subst E0
      subst he
      exact⟨rfl,K4.trans k5,rfl⟩
    | some qr =>
      obtain⟨q,row⟩:=qr
      rw[hrow] at he E0
      simp only[] at he E0
      obtain⟨r5,hrl,hr15,vr,rfl,hown⟩:=he
      have K5:=K4.trans k5
      obtain⟨g,cp,rfl,hg1,hg2⟩:=hown.form (by omega)
      have hcell:∀ i,i<size->w5.cell? ⟨g,i,none⟩=some (.int .i64 (row.getD i 0:Nat)):=fun i hi=>by rw[hown.cellAt i (by omega),TW row i (by omega)]
      have hcp:size<=cp:=by
        obtain⟨_,⟨h,_⟩ | ⟨g',cap',cur,hv,_,_,hle,_⟩⟩:=hown
        · cases h
        · simp only[Value.slice.injEq] at hv;omega
      have hcpm:cp<=maxLen:=by
        obtain⟨_,⟨h,_⟩ | ⟨g',cap',cur,hv,_,_,_,hle,_⟩⟩:=hown
        · cases h
        · simp only[Value.slice.injEq] at hv;omega
      unfold maxLen at hcpm
      have HK5:Hid (Kept E.S (.bool true) (.bool true) w w5):=K5
      have HR5:Hid (Rd w5 E q v):=r5
      have c256:=hcell 256 (by omega)
      obtain⟨x,HX⟩:=nn_ (row.getD 256 0)
      rw[<-HX.out] at c256 E0
      have h256:(256:Int)<size:=by omega
      clear hrow hown r4 r5 k5 K3 K4 K2 hcL
      by_cases hx0:x=0
      · subst hx0
        rw[if_pos rfl] at E0
        subst E0
        go_wp2
        exact⟨rfl,HK5.out,rfl⟩
      rw[if_neg hx0] at E0
      have hx0':((x:Int) == 0)=false:=by simp;omega
      have hnk:¬ a+257+(b+1)=a+257:=by omega
      have hA1:((a+257:Nat):Int)<=((a+257+(b+1):Nat):Int):=by omega
      have hcpZ:(a:Int)+257<=cp:=by omega
      obtain⟨l,Hl⟩:=nn_ (row.take (a+257))
      obtain⟨d,Hd⟩:=nn_ (row.drop (a+257))
      rw[<-Hl.out,<-Hd.out] at E0
      have hll:l.length=a+257:=by rw[Hl.out,List.length_take];omega
      have hdl:d.length=b+1:=by rw[Hd.out,List.length_drop];omega
      have hl15:∀ z ∈ l,z<=15:=fun z hz=>by rw[Hl.out] at hz;exact hr15 z (List.mem_of_mem_take hz)
      have hd15:∀ z ∈ d,z<=15:=fun z hz=>by rw[Hd.out] at hz;exact hr15 z (List.mem_of_mem_drop hz)
      have hat1:AtI w5 g 0 l:=fun i hi=>by
        rw[Wq7,hcell i (by omega),Hl.out];simp[show i<a+257 by omega]
      have hat2:AtI w5 g (a+257) d:=fun i hi=>by
        rw[hcell (a+257+i) (by omega),Hd.out];simp
      have C1:∀ W,Below w5.heap.size w5 W->Qj l=true->Calls prog 157 #[.pointer (some ⟨E.S,0,none⟩),.slice (some ⟨g,0,none⟩) (a+257) cp] W fun e w'=>∃ L,e=.returned (jj L)/\Below W.heap.size W w'/\New W w' E.S L (z7 l) (qx l):=fun W hW hc=>by
        rw[<-hll];exact UJ E.S g 0 cp l W (by omega) hl15 (fun i hi=>(hW.cell (p:=⟨g,0+i,none⟩) hg2).trans (hat1 i hi)) (by have:=hW.size;omega) hc
      have C1n:∀ W,Below w5.heap.size w5 W->Qj l=false->Calls prog 157 #[.pointer (some ⟨E.S,0,none⟩),.slice (some ⟨g,0,none⟩) (a+257) cp] W fun e w'=>e=.panicked (j4 10)/\Below W.heap.size W w':=fun W hW hc=>by
        rw[<-hll];exact Xv E.S g 0 cp l W (by omega) hl15 (fun i hi=>(hW.cell (p:=⟨g,0+i,none⟩) hg2).trans (hat1 i hi)) (by have:=hW.size;omega) hc
      have C2:∀ W,Below w5.heap.size w5 W->Qj d=true->Calls prog 157 #[.pointer (some ⟨E.S,0,none⟩),.slice (some ⟨g,a+257,none⟩) (b+1) (cp-(a+257))] W fun e w'=>∃ L,e=.returned (jj L)/\Below W.heap.size W w'/\New W w' E.S L (z7 d) (qx d):=fun W hW hc=>by
        rw[<-hdl];exact UJ E.S g (a+257) _ d W (by omega) hd15 (fun i hi=>(hW.cell (p:=⟨g,a+257+i,none⟩) hg2).trans (hat2 i hi)) (by have:=hW.size;omega) hc
      have C2n:∀ W,Below w5.heap.size w5 W->Qj d=false->Calls prog 157 #[.pointer (some ⟨E.S,0,none⟩),.slice (some ⟨g,a+257,none⟩) (b+1) (cp-(a+257))] W fun e w'=>e=.panicked (j4 10)/\Below W.heap.size W w':=fun W hW hc=>by
        rw[<-hdl];exact Xv E.S g (a+257) _ d W (by omega) hd15 (fun i hi=>(hW.cell (p:=⟨g,a+257+i,none⟩) hg2).trans (hat2 i hi)) (by have:=hW.size;omega) hc
      have HC2:=(show Hid _ from C2)
      have HC2n:=(show Hid _ from C2n)
      have HC1:=(show Hid _ from C1)
      have HC1n:=(show Hid _ from C1n)
      have HB5:Hid (Below w5.heap.size w5 w5.drew):=(Below.refl _ _).drew
      clear C1 C1n C2 C2n hcell hr15
      cases hcl:Qj l with
      | false =>
        rw[if_pos hcl] at E0
        subst E0
        go_wp2
        go_region_with (first | (go_at_call 157;refine(HC1n.out _ HB5.out hcl).mono ?_;rintro e w6 ⟨rfl,hb6⟩;refine ZK ⟨rfl,HK5.out.trans ((Kept.refl _ _ _).drew.trans (Kept.of_below hb6)),rfl⟩ ?_))
        all_goals exact trivial
      | true =>
        rw[if_neg (by rw[hcl];simp)] at E0
        cases hcd:Qj d with
        | false =>
          rw[if_pos hcd] at E0
          subst E0
          go_wp2
          go_region_with (first | (go_at_call 157;refine(HC1.out _ HB5.out hcl).mono ?_;rintro e w6 ⟨L6,rfl,hb6,hL6⟩;have HB6:Hid (Below w5.heap.size w5 w6):=HB5.out.trans ⟨hb6.os,hb6.tape,hb6.output,hb6.size,hb6.block⟩;have HL6:Hid (New w5 w6 E.S L6 (z7 l) (qx l)):=hL6.mono (WzV _);clear HC1 hb6 hL6) | (go_at_call 157;refine(HC2n.out _ HB6.out hcd).mono ?_;rintro e w7 ⟨rfl,hb7⟩;refine ZK ⟨rfl,HK5.out.trans ((Kept.of_below HB6.out).trans (Kept.of_below hb7)),rfl⟩ ?_))
          all_goals exact trivial
        | true =>
          rw[if_neg (by rw[hcd];simp)] at E0
          subst E0
          go_wp2
          go_region_with (first | (go_at_call 157;refine(HC1.out _ HB5.out hcl).mono ?_;rintro e w6 ⟨L6,rfl,hb6,hL6⟩;have HB6:Hid (Below w5.heap.size w5 w6):=HB5.out.trans ⟨hb6.os,hb6.tape,hb6.output,hb6.size,hb6.block⟩;have HL6:Hid (New w5 w6 E.S L6 (z7 l) (qx l)):=hL6.mono (WzV _);clear HC1 hb6 hL6) | (go_at_call 157;refine(HC2.out _ HB6.out hcd).mono ?_;rintro e w7 ⟨L7,rfl,hb7,hL7⟩;have HF:Hid (Kept E.S (.bool true) (.bool true) w w7/\Rd w7 E q v/\New w w7 E.S L6 (z7 l) (qx l)/\New w w7 E.S L7 (z7 d) (qx d)):=⟨HK5.out.trans ((Kept.of_below HB6.out).trans (Kept.of_below hb7)),(HR5.out.below HB6.out).below hb7,((HL6.out.mono HK5.out.size).later hb7 (by have:=HK5.out.size;have:=HB6.out.size;omega)),hL7.mono (by have:=HK5.out.size;have:=HB6.out.size;omega)⟩;clear hb7 hL7 HC2))
          all_goals
            go_wp2
            go_ret2
            first | exact⟨HF.out.1,HF.out.2.1,by omega,by omega,L6,L7,rfl,HF.out.2.2.1,HF.out.2.2.2⟩ | exact⟨HF.out.1,HF.out.2.1,by omega,by omega,by omega,by omega,L6,L7,rfl,HF.out.2.2.1,HF.out.2.2.2⟩
def uK (zs:List Int) (most win:Int) (kind p:Nat) (out:List Int):Res :=
 if kind=0 then yu zs most p out
 else if kind=1 then Kj (dec (z7 qy) (qx qy) zs) (dec (z7 yq) (qx yq) zs) zs most win p out
 else if kind=2 then match toldOf zs p with
  | some (l,d,q)=>Kj (dec (z7 l) (qx l) zs) (dec (z7 d) (qx d) zs) zs most win q out
  | none=>.error 10
 else .error 10
def PostB (E:Env) (B:Nat) (v:Value) (w:World) (b:Bool) (r:Res) (e:Ending) (w':World):Prop :=
 match r with
 | .ok (p,out)=>e=.returned (.bool b)/\∃ v',St w' E B p v' out/\Kept E.S v v' w w'
 | .error k=>e=.panicked (j4 k)/\∃ v',Kept E.S v v' w w'
theorem Kept.ofBelow {S:Nat} {w w':World} (hb:Below w.heap.size w w'):Kept S (.bool true) (.bool true) w w' :=
 ⟨hb.os,hb.tape,hb.output,hb.size,fun k h1 _ _=>hb.block k h1,.inl rfl⟩
theorem St.vlt {w:World} {E:Env} {B p:Nat} {v:Value} {out:List Int} (h:St w E B p v out):∀ k,v.ownBlock=some k->k<w.heap.size:=by
 intro k hk;rcases h.own.2 with ⟨hv,_⟩ | ⟨g,cap,cur,hv,hb,hg,_⟩
 ·rw[hv] at hk;cases hk
 rw[hv] at hk;simp only[Value.ownBlock,Wq9.injEq] at hk;subst hk;rcases Nat.lt_or_ge g w.heap.size with hlt | hge
 ·exact hlt
 rw[Array.getElem?_eq_none hge] at hg;cases hg
theorem F7:qy.length<=400:=by simp[qy]
theorem zj8:0<qy.length:=by simp[qy]
theorem M6:yq.length<=400:=by decide
theorem zqZ:0<yq.length:=by decide
theorem Qk (E:Env) (p:Nat) (v:Value) (w:World) (hz:IsB E.zs) (hl:E.zs.length<=400000) (h:Rd w E p v) (hs:8*E.zs.length<p+3) :
  Calls prog 125 #[.pointer (some ⟨E.S,0,none⟩)] w fun e w'=>e=.panicked (j4 10)/\Kept E.S (.bool true) (.bool true) w w':=by
 go_enter func125,ntmps125;by_cases h1:8*E.zs.length<p+1
 ·go_wp2_with fail
  refine(y5 E p 1 v w hz hl (by omega) h h1).mono ?_;rintro e w1 ⟨rfl,k1⟩;exact⟨rfl,rfl,k1⟩
 go_wp2_with fail
 refine(qX E p 1 v w hz hl (by omega) h (by omega)).mono ?_;rintro e w1 ⟨rfl,r1,k1⟩;go_wp2_with fail
 refine(y5 E (p+1) 2 v w1 hz hl (by omega) r1 (by omega)).mono ?_;rintro e w2 ⟨rfl,k2⟩;exact⟨rfl,rfl,k1.trans k2⟩
theorem Xw (E:Env) (B p:Nat) (v:Value) (out:List Int) (w:World) (hz:IsB E.zs) (hl:E.zs.length<=400000) (h:St w E B p v out) (hm:E.most<=400000) (hcap:E.zs.length<=E.cap) (hw2:E.win<=40000) (hw3:0<=E.win) (ht:Qu w E v) (hs:p+3<=8*E.zs.length) :
  Calls prog 125 #[.pointer (some ⟨E.S,0,none⟩)] w (PostB E B v w (((zZ E.zs p 1:Nat):Int) == 1) (uK E.zs E.most E.win (zZ E.zs (p+1) 2) (p+1+2) out)):=by
 obtain⟨r,HR0⟩:=nm_ (uK E.zs E.most E.win (zZ E.zs (p+1) 2) (p+1+2) out);rw[HR0.out];obtain⟨g,HG⟩:=nn_ (zZ E.zs p 1);rw[<-HG.out];have hr:=h.rd;go_enter func125,ntmps125;go_wp2_with fail
 refine(qX E p 1 v w hz hl (by omega) hr (by omega)).mono ?_;rintro e w1 ⟨rfl,r1,k1⟩;rw[<-HG.out];go_wp2_with fail
 refine(qX E (p+1) 2 v w1 hz hl (by omega) r1 (by omega)).mono ?_;rintro e w2 ⟨rfl,r2,k2⟩;have K2:=k1.trans k2;have S2:St w2 E B (p+1+2) v out:=h.read r2 K2;have T2:Qu w2 E v:=ht.kept (K2.weak v);have gk:=y8 E.zs (p+1) 2;obtain⟨k,HKd⟩:=nn_ (zZ E.zs (p+1) 2);rw[<-HKd.out] at gk ⊢
 have HR1:Hid (uK E.zs E.most E.win k (p+1+2) out=r):=by show _=_;rw[HKd.out];exact HR0.out
 have hS2:=S2.rd.lt.1;have hv2:=S2.vlt;have hk4:k<4:=by omega
 clear HR0 HKd gk hr r1 h ht hs;by_cases h0:k=0
 ·subst h0;have e0:yu E.zs E.most (p+1+2) out=r:=HR1.out;go_wp2_with fail
  refine(KV E B (p+1+2) v out w2 hz hl S2 hm hcap).mono ?_;rw[e0];clear e0 HR1;rintro e w4 hP;rcases r with k4 | ⟨q4,o4⟩
  ·obtain⟨rfl,v4,K4⟩:=hP;exact⟨rfl,rfl,v4,(K2.weak v).trans K4⟩
  obtain⟨rfl,v4,S4,K4⟩:=hP;go_wp2;go_ret;exact⟨rfl,v4,S4,(K2.weak v).trans K4⟩
 by_cases h1:k=1
 ·subst h1;have e0:Kj (dec (z7 qy) (qx qy) E.zs) (dec (z7 yq) (qx yq) E.zs) E.zs E.most E.win (p+1+2) out=r:=HR1.out;go_wp2_with fail
  refine(KZ E.S w2).mono ?_;rintro e w3 ⟨L,M,rfl,hb3,nL,nM⟩;have k3:Kept E.S (.bool true) (.bool true) w2 w3:=Kept.ofBelow hb3;have S3:St w3 E B (p+1+2) v out:=S2.read (S2.rd.below hb3) k3;have T3:Qu w3 E v:=T2.kept (k3.weak v);have K3:=K2.trans k3;unfold jj;go_wp2_with fail
  refine(Qz E B (p+1+2) v out w3 hz hl S3 hm hw2 hw3 T3 L M _ _ _ _ (nL.codeAt hS2 hv2) (nM.codeAt hS2 hv2) (Zq _ F7) (Zq _ M6) (fun i=>by have:=Y8 qy zj8 i;have:=F7;omega) (fun i=>by have:=Y8 yq zqZ i;have:=M6;omega)).mono ?_;rw[e0];clear e0 HR1;rintro e w4 hP;rcases r with k4 | ⟨q4,o4⟩
  ·obtain⟨rfl,v4,K4⟩:=hP;exact⟨rfl,rfl,v4,(K3.weak v).trans K4⟩
  obtain⟨rfl,v4,S4,K4⟩:=hP;go_wp2;go_ret;exact⟨rfl,v4,S4,(K3.weak v).trans K4⟩
 by_cases h2:k=2
 ·subst h2;have e0:(match toldOf E.zs (p+1+2) with
   | some (l,d,q)=>Kj (dec (z7 l) (qx l) E.zs) (dec (z7 d) (qx d) E.zs) E.zs E.most E.win q out
   | none=>.error 10)=r:=HR1.out
  have HE0:Hid (_=r):=e0;clear e0;go_wp2_with fail
  refine(Gy E (p+1+2) v w2 hz hl r2 T2 hv2).mono ?_;rintro e w3 ⟨k3,hP3⟩;have e0:=HE0.out;clear HE0 HR1;obtain⟨tt,HTT⟩:∃ tt,toldOf E.zs (p+1+2)=tt:=⟨_,rfl⟩;rw[HTT] at hP3 e0;rcases tt with _ | ⟨l,d,q⟩
  ·simp only at hP3 e0;subst hP3 e0;exact⟨rfl,rfl,v,(K2.trans k3).weak v⟩
  simp only at hP3 e0;obtain⟨r3,hl1,hl2,hd1,hd2,L,M,rfl,nL,nM⟩:=hP3;have S3:St w3 E B q v out:=S2.read r3 k3;have T3:Qu w3 E v:=T2.kept (k3.weak v);have K3:=K2.trans k3;have HR1:Hid (_=r):=e0;unfold jj;go_wp2_with fail
  refine(Qz E B q v out w3 hz hl S3 hm hw2 hw3 T3 L M _ _ _ _ (nL.codeAt hS2 hv2) (nM.codeAt hS2 hv2) (Zq _ hl1) (Zq _ hd1) (fun i=>by have:=Y8 l hl2 i;omega) (fun i=>by have:=Y8 d hd2 i;omega)).mono ?_;rw[e0];clear e0 HR1;rintro e w4 hP;rcases r with k4 | ⟨q4,o4⟩
  ·obtain⟨rfl,v4,K4⟩:=hP;exact⟨rfl,rfl,v4,(K3.weak v).trans K4⟩
  obtain⟨rfl,v4,S4,K4⟩:=hP;go_wp2;go_ret;exact⟨rfl,v4,S4,(K3.weak v).trans K4⟩
 have hk3:k=3:=by omega
 subst hk3;obtain rfl:Except.error 10=r:=HR1.out;go_wp2;exact⟨rfl,rfl,v,K2.weak v⟩
theorem M7 {dl dd:Nat->Option (Nat × Nat)} {zs:List Int} {most win:Int} {p:Nat} {out:List Int} {rest:Nat->List Int->Res} (hr:∀ q o q' o',rest q o=.ok (q',o')->q<=q') {q':Nat} {o':List Int}
  (h:xZ dl dd zs most win p out rest=.ok (q',o')):p<=q':=by
 unfold xZ at h;cases hdl:dl p with
 | none=>simp[hdl] at h
 | some yp =>
  obtain⟨y,p1⟩:=yp;simp only[hdl] at h;by_cases c1:p<p1/\p1<=8*zs.length;rotate_left
  ·rw[if_neg c1] at h;cases h
  rw[if_pos c1] at h;by_cases c2:y<256
  ·rw[if_pos c2] at h;split at h
   ·cases h
   have:=hr _ _ _ _ h;omega
  rw[if_neg c2] at h;split at h
  ·simp only[Except.ok.injEq,Prod.mk.injEq] at h;omega
  split at h
  ·cases h
  split at h
  ·cases h
  cases hdd:dd (p1+lenBits.getD (y-257) 0) with
  | none=>simp only[hdd] at h;cases h
  | some dp =>
   obtain⟨d,p3⟩:=dp;simp only[hdd] at h;by_cases c3:p1+lenBits.getD (y-257) 0<p3/\p3<=8*zs.length
   ·rw[if_pos c3] at h;split at h
    ·cases h
    split at h
    ·cases h
    split at h
    ·cases h
    split at h
    ·cases h
    have:=hr _ _ _ _ h;omega
   rw[if_neg c3] at h;cases h
theorem W0 {dl dd:Nat->Option (Nat × Nat)} {zs:List Int} {most win:Int} : ∀ (f p:Nat) (out:List Int) (q':Nat) (o':List Int),V4 dl dd zs most win f p out=.ok (q',o')->p<=q'
 | 0,_,_,_,_,h=>by cases h
 | f+1,p,out,q',o',h=>by
  rw[V4] at h;exact M7 (fun q o q1 o1=>W0 f q o q1 o1) h
theorem zqQ {zs:List Int} {p y x t q:Nat} {row:List Nat} (h:Y6 zs p y row=some (x,t,q)):p<=q:=by
 unfold Y6 at h;split at h
 ·split at h
  ·cases h
  split at h
  ·cases h
  simp only[Wq9.injEq,Prod.mk.injEq] at h;omega
 split at h
 ·split at h
  ·cases h
  simp only[Wq9.injEq,Prod.mk.injEq] at h;omega
 split at h
 ·split at h
  ·cases h
  simp only[Wq9.injEq,Prod.mk.injEq] at h;omega
 simp only[Wq9.injEq,Prod.mk.injEq] at h;omega
theorem F8 {dc:Nat->Option (Nat × Nat)} {zs:List Int} {size:Nat} (hd:∀ p y p1,dc p=some (y,p1)->p<=p1):∀ (f p:Nat) (row:List Nat) (q:Nat) (r:List Nat),Jj dc zs size f p row=some (q,r)->p<=q
 | 0,p,row,q,r,h=>by
  rw[Jj] at h
  split at h
  ·cases h
  ·simp only[Wq9.injEq,Prod.mk.injEq] at h;omega
 | f+1,p,row,q,r,h=>by
  rw[Jj] at h
  split at h
  ·cases hc:dc p with
   | none=>simp[hc] at h
   | some yp =>
    obtain⟨y,p1⟩:=yp
    simp only[hc] at h
    cases hr:Y6 zs p1 y row with
    | none=>simp[hr] at h
    | some xt =>
     obtain⟨x,t,q1⟩:=xt
     simp only[hr] at h
     split at h
     ·cases h
     ·have h1:=hd _ _ _ hc
      have h2:=zqQ hr
      have h3:=F8 hd f _ _ _ _ h
      omega
  ·simp only[Wq9.injEq,Prod.mk.injEq] at h;omega
theorem O8 {zs:List Int} {p q:Nat} {l d:List Nat} (h:toldOf zs p=some (l,d,q)):p<=q:=by
 unfold toldOf at h;iterate 6 (split at h;· cases h)
 split at h
 ·cases h
 rename_i q1 row hr;have:=F8 (fun p y p1 h=>by have:=(B4 h).1;omega) _ _ _ _ _ hr;split at h
 ·cases h
 split at h
 ·cases h
 split at h
 ·cases h
 simp only[Wq9.injEq,Prod.mk.injEq] at h;omega
theorem X0 {zs:List Int} {most win:Int} {k p q:Nat} {out o:List Int} (h:uK zs most win k p out=.ok (q,o)):p<=q:=by
 unfold uK at h;split at h
 ·unfold yu at h;iterate 4 (split at h;· cases h)
  simp only[Except.ok.injEq,Prod.mk.injEq] at h;omega
 split at h
 ·exact W0 _ _ _ _ _ h
 split at h
 ·split at h
  ·rename_i l d q1 ht;have h1:=O8 ht;have h2:=W0 _ _ _ _ _ h;omega
  cases h
 cases h
def ZY (zs:List Int) (most win:Int):Nat->Nat->List Int->Res
 | 0,_,_=>.error 10
 | f+1,p,out =>
  if 8*zs.length<p+3 then .error 10
  else match uK zs most win (zZ zs (p+1) 2) (p+1+2) out with
   | .error k=>.error k
   | .ok (q,o)=>if zZ zs p 1=1 then .ok (q,o) else ZY zs most win f q o
theorem V6 (zs:List Int) (most win:Int):∀ (f p:Nat) (out:List Int),8*zs.length-p<f->ZY zs most win f p out=ZY zs most win (f+1) p out
 | 0,_,_,h=>by omega
 | f+1,p,out,h=>by
  rw[ZY,ZY];by_cases hs:8*zs.length<p+3
  ·rw[if_pos hs,if_pos hs]
  rw[if_neg hs,if_neg hs];cases hb:uK zs most win (zZ zs (p+1) 2) (p+1+2) out with
  | error k=>rfl
  | ok r =>
   obtain⟨q,o⟩:=r;simp only;have:=X0 hb;by_cases hg:zZ zs p 1=1
   ·rw[if_pos hg,if_pos hg]
   rw[if_neg hg,if_neg hg];exact V6 zs most win f q o (by omega)
def xX (zs:List Int) (most win:Int) (p:Nat) (out:List Int):Res:=ZY zs most win (8*zs.length+1) p out
theorem X3 (zs:List Int) (most win:Int) (p:Nat) (out:List Int):xX zs most win p out =
    if 8*zs.length<p+3 then .error 10
    else match uK zs most win (zZ zs (p+1) 2) (p+1+2) out with
      | .error k=>.error k
      | .ok (q,o)=>if zZ zs p 1=1 then .ok (q,o) else xX zs most win q o:=by
  unfold xX
  rw[ZY]
  by_cases hs:8*zs.length<p+3
  · rw[if_pos hs,if_pos hs]
  · rw[if_neg hs,if_neg hs]
    cases hb:uK zs most win (zZ zs (p+1) 2) (p+1+2) out with
    | error k=>rfl
    | ok r =>
      obtain⟨q,o⟩:=r
      simp only
      have:=X0 hb
      by_cases hg:zZ zs p 1=1
      · rw[if_pos hg,if_pos hg]
      · rw[if_neg hg,if_neg hg]
        exact V6 zs most win _ q o (by omega)
def Y9 (x y:Int):Bool:=x % 16 == 8 && decide (x / 16<=7) && (x*256+y) % 31 == 0 && bits .and .i64 y 32 == 0
theorem Yz (E:Env) (v:Value) (w:World) (hz:IsB E.zs) (hl:E.zs.length<=400000) (h:Str w E 0 0 0 v) (h2:E.zs.length<2) :
  Calls prog 124 #[.pointer (some ⟨E.S,0,none⟩)] w fun e w'=>e=.panicked (j4 10)/\Kept E.S (.bool true) (.bool true) w w':=by
 by_cases h0:E.zs.length=0
 ·go_enter func124,ntmps124;go_wp2_with fail
  refine(jw E 0 0 v w (by rw[h0];exact h)).mono ?_;rintro e w1 ⟨rfl,k1⟩;exact⟨rfl,rfl,k1⟩
 go_enter func124,ntmps124;go_wp2_with fail
 refine(vY E 0 0 0 v w hz hl (by omega) h).mono ?_;rintro e w1 ⟨rfl,s1,k1⟩;go_wp2_with fail
 refine(jw E 0 0 v w1 (by rw[show E.zs.length=0+1 from by omega];exact s1)).mono ?_;rintro e w2 ⟨rfl,k2⟩;exact⟨rfl,rfl,k1.trans k2⟩
theorem zj9 (k:Nat) (h:k<=7):IntKind.i64.wrap (2 ^ (k+8))=((2 ^ (k+8):Nat):Int):=by
 have:(2:Int) ^ (k+8)=((2 ^ (k+8):Nat):Int):=by simp
 rw[this];exact Plain.wrap_small _ (by have:=Wqk (n:=2) (by omega) (show k+8<=15 by omega);omega)
theorem Str.set6 {w:World} {E:Env} {nx hold held:Nat} {v:Value} (h:Str w E nx hold held v) (m:Int):Str (w.setCell ⟨E.S,6,none⟩ (.int .i64 m)) { E with win:=m } nx hold held v :=
  ⟨(z8 _ (by omega)).trans h.c0,(z8 _ (by omega)).trans h.c1,(z8 _ (by omega)).trans h.c2,(z8 _ (by omega)).trans h.c3,(z8 _ (by omega)).trans h.c4,(z8 _ (by omega)).trans h.c5,World.cell?_setCell_same _ _ _ h.c6,
   fun i=>by rw[World.frozen?_setCell];exact h.fz i,YY h.src h.ibS _,h.ibS,h.ibv,by simpa [World.setCell] using h.ibl,by simpa [World.setCell] using h.Sl,h.Sv⟩
theorem ju (E:Env) (x y:Int) (rest:List Int) (v:Value) (w:World) (he:E.zs=x :: y :: rest) (hz:IsB E.zs) (hl:E.zs.length<=400000) (h:Str w E 0 0 0 v) :
  Calls prog 124 #[.pointer (some ⟨E.S,0,none⟩)] w fun e w'=>Kept E.S (.bool true) (.bool true) w w'/\
   if Y9 x y=true then e=.returned (.tuple #[])/\Str w' { E with win:=((2 ^ ((x / 16).toNat+8):Nat):Int) } 2 0 0 v else e=.panicked (j4 10):=by
 have hlen:E.zs.length=rest.length+2:=by rw[he];rfl
 have hx0:E.zs[0]'(by omega)=x:=by simp[he]
 have hy0:E.zs[1]'(by omega)=y:=by simp[he]
 have bx:=hz.at 0 (by omega);have bY:=hz.at 1 (by omega);rw[hx0] at bx;rw[hy0] at bY;obtain⟨r,HR⟩:=nm_ (Y9 x y);rw[HR.out];go_enter func124,ntmps124;go_wp2_with fail
 refine(vY E 0 0 0 v w hz hl (by omega) h).mono ?_;rintro e w1 ⟨rfl,s1,k1⟩;rw[hx0];go_wp2_with fail
 refine(vY E 1 0 0 v w1 hz hl (by omega) s1).mono ?_;rintro e w2 ⟨rfl,s2,k2⟩;rw[hy0];have HK2:Hid (Kept E.S (.bool true) (.bool true) w w2):=k1.trans k2;have HS2:Hid (Str w2 E 2 0 0 v):=s2;obtain⟨c0,c1,c2,c3,c4,c5,c6,fz,src,ibS,ibv,ibl,Sl,Sv⟩:=s2;have f6:=fz 6;obtain⟨bx1,bx2⟩:=bx;obtain⟨by1,by2⟩:=bY;have HRo:=HR.out;unfold Y9 at HRo
 clear c0 c1 c2 c3 c4 c5 src he hx0 hy0 k1 k2 s1;by_cases h1:x % 16=8;rotate_left
 ·have h1':(x % 16 != 8)=true:=by simp[h1]
  have hr:r=false:=by rw[<-HRo];simp[h1]
  subst hr;clear HRo HR h1;go_wp2;exact⟨rfl,HK2.out,rfl⟩
 have h1':(x % 16 != 8)=false:=by simp[h1]
 by_cases h2:x / 16<=7;rotate_left
 ·have h2':7<x / 16:=by omega
  have hr:r=false:=by rw[<-HRo];simp[h2]
  subst hr;clear HRo HR h1;go_wp2;exact⟨rfl,HK2.out,rfl⟩
 have h2':¬ 7<x / 16:=by omega
 by_cases h3:(x*256+y) % 31=0;rotate_left
 ·have h3':((x*256+y) % 31 != 0)=true:=by simp[h3]
  have hr:r=false:=by rw[<-HRo];simp[h3]
  subst hr;clear HRo HR h1 h3;go_wp2;exact⟨rfl,HK2.out,rfl⟩
 have h3':((x*256+y) % 31 != 0)=false:=by simp[h3]
 obtain⟨q,HQ⟩:=nn_ (bits .and .i64 y 32);by_cases h4:bits .and .i64 y 32=0
 ·have h4':(bits .and .i64 y 32 != 0)=false:=by simp[h4]
  have hr:r=true:=by rw[<-HRo];simp[h1,h2,h3,h4]
  subst hr;obtain⟨k,hk⟩:∃ k:Nat,x / 16=(k:Int):=⟨(x / 16).toNat,by omega⟩;have hk7:k<=7:=by omega
  have hpw:=zj9 k hk7;have HW:Hid (wrap64 (2 ^ (k+8))=(2:Int) ^ (k+8)):=by show _=_;rw[xJ,hpw];simp
  clear HRo HR h1 h3 h4 hpw;go_wp2;go_end0;exact⟨HK2.out.set _ _,rfl,by rw[HW.out];exact HS2.out.set6 _⟩
 have h4':(bits .and .i64 y 32 != 0)=true:=by simp[h4]
 have hr:r=false:=by rw[<-HRo];simp[h1,h2,h3,h4]
 subst hr;clear HRo HR h1 h3 h4;go_wp2;exact⟨rfl,HK2.out,rfl⟩
def be (zs:List Int) (c:Nat):Nat->Nat
 | 0=>0
 | k+1=>be zs c k*256+(zs.getD (c+k) 0).toNat
theorem qq6 (zs:List Int) (hz:IsB zs) (c:Nat):∀ k,be zs c k<256 ^ k
 | 0=>by simp[be]
 | k+1=>by
  have ih:=qq6 zs hz c k;have:=hz.get (c+k);rw[be,Nat.pow_succ];simp only[List.getD_eq_getElem?_getD];omega
theorem be_or (s:Nat) (x:Int) (hs:s<16777216) (h1:0<=x) (h2:x<=255):bits .or .u32 ((s:Int)*256) x=((s*256+x.toNat:Nat):Int):=by
 rw[show (s:Int)*256=((s*256:Nat):Int) from by omega,u32_or _ _ (by omega) (by omega) h1 (by omega),Int.toNat_natCast,nat_join 8 _ _ (by omega) (by omega)]
theorem M8 (a:Option Addr) (cap:Nat) (w:World) :
  Calls prog 16 #[.slice a 0 cap] w fun e w'=>e=.returned (.int .u32 (vk []))/\w'=w:=by
 go_enter func16,ntmps16;go_wp2;go_loop [3,4,9] (fun s t i=>i=.int .i64 0/\s=.int .u32 1/\t=.int .u32 0) (fun _ _ _=>0)
 case atStart=>exact⟨rfl,rfl,rfl⟩
 obtain⟨rfl,rfl,rfl⟩:=hrel;go_wp2;go_ret;exact⟨F4 (by decide),rfl⟩
theorem O9 (w:World) (B n cp:Nat) (a:Option Addr) (out:List Int) (hown:w.ownsRow B 5 1 (.slice a n cp) n (out.map (Value.int .u8))) (hn:out.length=n) (hz:IsB out) (hl:n<=300000) :
  Calls prog 16 #[.slice a n cp] w fun e w'=>e=.returned (.int .u32 (vk out))/\w'=w:=by
 by_cases h0:n=0
 ·subst h0;obtain rfl:out=[]:=List.eq_nil_of_length_eq_zero hn;exact M8 a cp w
 obtain⟨g,cap',hv,_,_⟩:=hown.form (by omega);simp only[Value.slice.injEq] at hv;obtain⟨rfl,_,rfl⟩:=hv;rw[<-hn];exact K9 g 0 cp out w (by omega) hz (fun i hi=>by rw[Wq7];exact zq9 hown hn i (by omega))
def Gu (zs:List Int) (p:Nat) (out:List Int):Bool:=decide ((p+7) / 8+4<=zs.length) && decide (((be zs ((p+7) / 8) 4:Nat):Int)=vk out)
theorem V7 (E:Env) (B p:Nat) (v:Value) (out:List Int) (w:World) (hz:IsB E.zs) (hl:E.zs.length<=400000) (h:St w E B p v out) (hm:E.most<=300000) :
  Calls prog 126 #[.pointer (some ⟨E.S,0,none⟩)] w fun e w'=>Kept E.S (.bool true) (.bool true) w w'/\
   if Gu E.zs p out=true then e=.returned (.tuple #[])/\∃ hold held,Str w' E ((p+7) / 8+4) hold held v else e=.panicked (j4 10):=by
 have hle:=h.le;obtain⟨m,hmo⟩:∃ m,out.length=m:=⟨_,rfl⟩;obtain⟨⟨nx,hold,held,hst,hp,hh,hnx,HG⟩,hown,hisB,hB,_⟩:=h;obtain⟨c,HC⟩:=nn_ ((p+7) / 8);have hcn:nx=c:=by rw[HC.out];omega
 subst hcn;obtain⟨r,HR⟩:=nm_ (Gu E.zs p out);have HRo:=HR.out;unfold Gu at HRo;rw[HR.out];rw[<-HC.out] at HRo ⊢;rw[hmo] at hown hle;obtain⟨a,cp,rfl⟩:=zW hown;go_enter func126,ntmps126;go_wp2
 go_loopw [2,3] (fun s i wr=>∃ k n:Nat,k<=4/\nx+k<=E.zs.length/\i=.int .i64 k/\s=.int .u32 n/\Hid (n=be E.zs nx k)/\Hid (Str wr E (nx+k) hold held (.slice a m cp))/\Hid (Kept E.S (.bool true) (.bool true) w wr)) (fun _ i _=>4-(intOf i).toNat)
 case atStart=>exact⟨0,0,by omega,by omega,rfl,rfl,rfl,hst,Kept.refl _ _ _⟩
 obtain⟨k,n,hk4,hkl,rfl,rfl,HN,HS,HK⟩:=hrel;by_cases hk:k<4
 ·have hkZ:(k:Int)<4:=by omega
  by_cases hend:nx+k<E.zs.length;rotate_left
  ·have hr:r=false:=(by rw[<-HRo];simp;omega);subst hr;go_wp2_with fail
   refine(jw E hold held _ wr (by rw[show E.zs.length=nx+k from by omega];exact HS.out)).mono ?_;rintro e w1 ⟨rfl,k1⟩;exact⟨rfl,HK.out.trans k1,rfl⟩
  have hbl:=qq6 E.zs hz nx k;rw[<-HN.out] at hbl;have hn24:n<16777216:=Nat.lt_of_lt_of_le hbl (by have:=Wqk (n:=256) (by omega) (show k<=3 by omega);simpa using this);have hb:=hz.at (nx+k) hend;obtain⟨x,HX⟩:∃ x:Int,Hid (x=E.zs[nx+k]'hend):=⟨E.zs[nx+k]'hend,rfl⟩;rw[<-HX.out] at hb;obtain⟨hb1,hb2⟩:=hb;have hor:=be_or n x hn24 hb1 hb2
  have hxu:IntKind.u32.wrap x=x:=by rw[IntKind.wrap_u32'];omega
  have HN2:Hid (n*256+x.toNat=be E.zs nx (k+1)):=by
   show _=_;rw[be,<-HN.out,HX.out];simp[hend]
  clear hbl;go_wp2_with fail
  refine(vY E (nx+k) hold held _ wr hz hl hend HS.out).mono ?_;rintro e w1 ⟨rfl,s1,k1⟩;rw[<-HX.out];have HS1:Hid (Str w1 E (nx+(k+1)) hold held (.slice a m cp)):=s1;have HK1:Hid (Kept E.S (.bool true) (.bool true) w w1):=HK.out.trans k1;clear s1 k1;go_wp2;go_roundw;case rel=>exact⟨k+1,n*256+x.toNat,by omega,by omega,by go_num,by go_num,HN2,HS1,HK1⟩
  case measure=>simp[intOf];omega
 obtain rfl:k=4:=by omega
 have hownr:wr.ownsRow B 5 1 (.slice a m cp) m (out.map (Value.int .u8)):=HK.out.owns hown hst.Sv;obtain⟨c0,c1,c2,c3,c4,c5,c6,fz,src,ibS,ibv,ibl,Sl,Sv⟩:=HS.out;obtain⟨A,HA⟩:=nn_ (vk out);clear c0 c1 c2 c3 c5 c6 src;go_wp2_with fail
 refine(O9 wr B m cp a out hownr hmo hisB (by omega)).mono ?_;rintro e w1 ⟨rfl,rfl⟩;rw[<-HA.out];by_cases hs:(n:Int)=A
 ·have hs':((n:Int) != A)=false:=by simp[hs]
  have hr:r=true:=by rw[<-HRo,<-HN.out,<-HA.out];simp[hs];omega
  subst hr;have HS':Hid (n=n):=rfl;clear hs HRo;go_wp2;go_end0;exact⟨HK.out,rfl,hold,held,HS.out⟩
 have hs':((n:Int) != A)=true:=by simp[hs]
 have hr:r=false:=by rw[<-HRo,<-HN.out,<-HA.out];simp[hs]
 subst hr;clear hs HRo;go_wp2;exact⟨rfl,HK.out,rfl⟩
theorem R4 (k:Int) (w:World):(Instr.typeAssert (.iface 42 (.int .i64 k)) 20 42 true).run prog w=.ok (.tuple #[.int .i64 k,.bool true]) w:=by kernel_rfl
theorem R5 (k:Int) (w:World) :
  Calls prog 123 #[.iface 42 (.int .i64 k)] w fun e w'=>e=.returned (.iface 42 (.int .i64 k))/\w=w':=by
 have hta:=R4 k;go_enter func123,ntmps123;go_wp2;go_ret;exact⟨rfl,rfl⟩
theorem qj (p:Addr) (k:Int) (v:Value) (older:List PanicEntry) (w:World) (hc:w.cell? p=some v) (hz:w.frozen? p=false) :
  CallsD prog 122 #[.pointer (some p)] (.panicking ({ v:=.iface 42 (.int .i64 k),recovered:=false } :: older)) w fun e u' w' =>
   e=.returned (.tuple #[])/\u'=.panicking ({ v:=.iface 42 (.int .i64 k),recovered:=true } :: older)/\w'=w.setCell p (.iface 42 (.int .i64 k)):=by
 refine callsD_of_wpS func122 rfl fun c₀ cs hu=>?_;apply wpS_seq;apply wpS_region;simp[wpOpsS,go_sem,recoverD,hu,ntmps122,Exit.thenS];refine wpS_of_wp ?_;go_wp2_with (go_at_call 123;refine(R5 k _).mono ?_;rintro e w' ⟨rfl,rfl⟩)
 simp[bodyPostS,results,Tryz.results122]
theorem W4 (p:Addr) (w:World) :
  CallsD prog 122 #[.pointer (some p)] .returning w fun e u' w'=>e=.returned (.tuple #[])/\u'=.returning/\w'=w:=by
 refine callsD_of_wpS func122 rfl fun c₀ cs hu=>?_;apply wpS_seq;apply wpS_region;simp[wpOpsS,go_sem,recoverD,hu,ntmps122,Exit.thenS];refine wpS_of_wp ?_;go_wp2;cases c₀
 simp_all [bodyPostS,results,Tryz.results122]
end Go.Proofs.YtiaaekdpfpaigaaGreatDoor.Df
