import Derived.Test.YtgliaiemkfopeaaGreatDoorMn21
import Derived.Test.YtgliaiemkfopeaaGreatDoorMn16
import Derived.Test.YtgliaiemkfopeaaGreatDoorMn27
import Derived.Test.YtgliaiemkfopeaaGreatDoorMn25
import Derived.Test.YtgliaiemkfopeaaGreatDoorMn23
set_option linter.unusedSimpArgs false
set_option linter.unusedVariables false
set_option maxRecDepth 20000
set_option maxHeartbeats 4000000
namespace Go.Proofs.YtgliaiemkfopeaaGreatDoor.K
open Go.RowKit
def bad (rs:List Rx) (i k:Nat):Prop:=((rs.getD i dR).1++[47]).length<(rs.getD k dR).1.length/\(rs.getD k dR).1.take ((rs.getD i dR).1++[47]).length=(rs.getD i dR).1++[47]
theorem clD_iff (rs:List Rx):Rk.clD (rs.map (·.1)) ↔ ∃ i k,i<rs.length/\k<rs.length/\bad rs i k:=by
 have key:∀ (P:Str->Prop),(∃ a ∈ rs.map (·.1),P a) ↔ ∃ i,i<rs.length/\P (rs.getD i dR).1:=fun P=>by
  constructor
  ·rintro⟨a,ha,hp⟩
   obtain⟨x,hx,rfl⟩:=List.mem_map.1 ha
   obtain⟨i,hi,rfl⟩:=List.getElem_of_mem hx
   exact⟨i,hi,by rw[List.getD_eq_getElem?_getD,List.getElem?_eq_getElem hi];exact hp⟩
  ·rintro⟨i,hi,hp⟩
   exact⟨_,List.mem_map.2 ⟨_,zK rs i dR hi,rfl⟩,hp⟩
 unfold Rk.clD
 rw[key]
 simp only[key]
 constructor
 ·rintro⟨i,hi,k,hk,h⟩;exact⟨i,k,hi,hk,h⟩
 ·rintro⟨i,k,hi,hk,h⟩;exact⟨i,hi,k,hk,h⟩
theorem Tryz.results55:Tryz.f55.results=#[.tmp 2]:=by kernel_rfl
def Post55 (rs:List Rx) (w:World) (e:Ending) (w':World):Prop := ∃ b:Bool,e=.returned (.bool b)/\(b=true ↔ Rk.clD (rs.map (·.1)))/\w'=w
set_option maxHeartbeats 2000000 in
theorem clash_doc {G Q:Nat} {v1 v2:Value} {rs:List Rx} {ls:List Ex} (w:World) (h:Dq G w Q v1 v2 rs ls) :
  Calls Tryz.prog 55 #[.pointer (some ⟨Q,0,none⟩)] w (Post55 rs w):=by
 obtain⟨a,c,-,hP,-,hc0⟩:=h.px1
 have hfew:=h.few.1
 have HOK:=hid h.ok1
 obtain⟨N,HN⟩:=nm_ rs.length
 rw[HN.out] at hc0 hfew
 have HP:=hid hP
 have HC:Hid (∀ i,i<N->∃ b off,a=some ⟨b,off,none⟩/\∀ j,j<N->w.cell? ⟨b,off+j*22,none⟩=some (sV (rs.getD j dR).1)):=fun i hi=>by
  obtain⟨b,off,e1,_,e3⟩:=HP.out.at_ (by rw[HN.out];omega)
  exact⟨b,off,e1,fun j hj=>e3 j (by rw[HN.out];exact hj) 0 _ rfl⟩
 clear hP h
 go_enter Tryz.func55,Tryz.ntmps55
 go_wp2
 go_loopg [3] N (fun q iv wr=>∃ i:Nat,iv=.int .i64 i/\q=N-i/\i<=N/\wr=w/\Hid (∀ i',i'<i->∀ k',k'<N->¬ bad rs i' k'))
 case atStart=>exact⟨0,rfl,rfl,Nat.zero_le _,rfl,hid (fun j hj=>by omega)⟩
 case round =>
  obtain⟨i,rfl,hq,hin,hww,HI⟩:=hrel
  have hww':=hww.symm
  subst hww'
  by_cases hlt:i<N
  ·have hlti:(i:Int)<(N:Int):=by omega
   obtain⟨b,off,hae,hcs⟩:=HC.out i hlt
   subst hae
   have HCS:=hid hcs
   clear hcs
   obtain⟨x,hx⟩:∃ x,(rs.getD i dR).1=x:=⟨_,rfl⟩
   have hx60:x.length<=60:=by rw[<-hx];exact(HOK.out _ (zK rs i dR (by rw[HN.out];exact hlt))).1
   have hci:=HCS.out i hlt
   rw[hx] at hci
   obtain⟨X,HX⟩:=nm_ (⟨x.toArray⟩:ByteArray)
   obtain⟨nx,hnx⟩:∃ n,x.length=n:=⟨_,rfl⟩
   have hXs:X.size=nx:=by rw[<-HX.out,<-hnx];simp[ByteArray.size]
   have hs2:(⟨#[47]⟩:ByteArray).size=1:=rfl
   have HA2:Hid (X ++ ⟨#[47]⟩=⟨(x++[47]).toArray⟩):=hid (by rw[<-HX.out,show (⟨#[47]⟩:ByteArray)=⟨[47].toArray⟩ from rfl,yw])
   have hnx60:nx<=60:=by rw[<-hnx];exact hx60
   unfold sV at hci
   rw[HX.out] at hci
   have HX1:=hid hx
   have HNX:=hid hnx
   clear hx hnx
   go_wp2
   go_loopg [4] N (fun q kv wr=>∃ k:Nat,kv=.int .i64 k/\q=N-k/\k<=N/\wr=w/\Hid (∀ k',k'<k->¬ bad rs i k'))
   case atStart=>exact⟨0,rfl,rfl,Nat.zero_le _,rfl,hid (fun j hj=>by omega)⟩
   case round =>
    obtain⟨k,rfl,hq2,hkn,hwk,HK⟩:=hrel
    have hwk':=hwk.symm
    subst hwk'
    by_cases hlk:k<N
    ·have hlki:(k:Int)<(N:Int):=by omega
     obtain⟨y,hy⟩:∃ y,(rs.getD k dR).1=y:=⟨_,rfl⟩
     have hck:=HCS.out k hlk
     rw[hy] at hck
     have hy60:y.length<=60:=by rw[<-hy];exact(HOK.out _ (zK rs k dR (by rw[HN.out];exact hlk))).1
     obtain⟨ny,hny⟩:∃ n,y.length=n:=⟨_,rfl⟩
     obtain⟨Y,HY⟩:=nm_ (⟨y.toArray⟩:ByteArray)
     have hYs:Y.size=ny:=by rw[<-HY.out,<-hny];simp[ByteArray.size]
     have HBD:Hid (bad rs i k ↔ nx+1<ny/\y.take (nx+1)=x++[47]):=hid (by
      unfold bad
      rw[HX1.out,hy,List.length_append,List.length_singleton,HNX.out,hny])
     unfold sV at hck
     rw[HY.out] at hck
     have hny60:ny<=60:=by omega
     have HY1:=hid hy
     have HNY:=hid hny
     clear hy hny
     by_cases hgt:nx+1<ny
     ·have hgti:(nx:Int)+1<(ny:Int):=by omega
      have hsl:∀ W:World,(Instr.slice 9 (.string Y) none (some (.int .i64 ((nx:Int)+1))) none).run Tryz.prog W=.ok (.string ⟨(y.take (nx+1)).toArray⟩) W:=fun W=>by
       have:=Nm.slc_to y (nx+1) (by rw[HNY.out];omega) W
       rw[HY.out] at this
       push_cast at this
       exact this
      obtain⟨T,HT⟩:=nm_ (⟨(y.take (nx+1)).toArray⟩:ByteArray)
      rw[HT.out] at hsl
      by_cases heq:y.take (nx+1)=x++[47]
      ·have hb:T=X ++ ⟨#[47]⟩:=by rw[<-HT.out,HA2.out,heq]
       have HBAD:Hid (Rk.clD (rs.map (·.1))):=hid ((clD_iff rs).2 ⟨i,k,by rw[HN.out];exact hlt,by rw[HN.out];exact hlk,HBD.out.2 ⟨hgt,heq⟩⟩)
       subst hb
       go_wp2
       exact bodyPost_ret (results_tmp Tryz.results55 _ _ _) rfl ⟨true,rfl,⟨fun _=>HBAD.out,fun _=>rfl⟩,rfl⟩
      ·have hne:(T.toList == (X ++ ⟨#[47]⟩:ByteArray).toList)=false:=by
        rw[<-HT.out,HA2.out,Lib.toList_data,Lib.toList_data]
        simpa using heq
       have hne2:(T == (X ++ ⟨#[47]⟩:ByteArray))=false:=by rw[beq_toListBytes];exact hne
       have HK2:Hid (∀ k',k'<k+1->¬ bad rs i k'):=fun k' hk'=>by
        by_cases e:k'=k
        ·rw[e];exact fun hb=>heq (HBD.out.1 hb).2
        ·exact HK.out k' (by omega)
       go_wp2
       go_roundg (N-(k+1))
       case measure=>omega
       case rel=>exact⟨k+1,by go_num,rfl,by omega,rfl,HK2⟩
     ·have hgti:¬ ((nx:Int)+1<(ny:Int)):=by omega
      have HK2:Hid (∀ k',k'<k+1->¬ bad rs i k'):=fun k' hk'=>by
       by_cases e:k'=k
       ·rw[e];exact fun hb=>hgt (HBD.out.1 hb).1
       ·exact HK.out k' (by omega)
      go_wp2
      go_roundg (N-(k+1))
      case measure=>omega
      case rel=>exact⟨k+1,by go_num,rfl,by omega,rfl,HK2⟩
    ·have hlki:¬ (k:Int)<(N:Int):=by omega
     obtain rfl:k=N:=by omega
     have HI2:Hid (∀ i',i'<i+1->∀ k',k'<k->¬ bad rs i' k'):=fun i' hi' k' hk'=>by
      by_cases e:i'=i
      ·rw[e];exact HK.out k' hk'
      ·exact HI.out i' (by omega) k' hk'
     go_wp2
     go_roundg (k-(i+1))
     case measure=>omega
     case rel=>exact⟨i+1,by go_num,rfl,by omega,rfl,HI2⟩
  ·have hlti:¬ (i:Int)<(N:Int):=by omega
   obtain rfl:i=N:=by omega
   have HF:Hid (¬ Rk.clD (rs.map (·.1))):=hid (fun hc=>by
    obtain⟨i',k',h1,h2,h3⟩:=(clD_iff rs).1 hc
    rw[HN.out] at h1 h2
    exact HI.out i' h1 k' h2 h3)
   go_wp2
   exact bodyPost_ret (results_tmp Tryz.results55 _ _ _) rfl ⟨false,rfl,⟨fun hh=>(by cases hh),fun hh=>absurd hh HF.out⟩,rfl⟩
theorem Tryz.results24:Tryz.f24.results=#[.tmp 6]:=by kernel_rfl
theorem bd88t (A B:ByteArray) (w:World):(Instr.build 88 #[(0,.string A),(2,.string B)]).run Tryz.prog w=.ok (.agg (.string A :: (row .u8 zQ++[.string B])).toArray) w:=by kernel_rfl
theorem z20_ok:IdW zQ:=⟨rfl,fun n hn=>by rw[List.eq_of_mem_replicate hn];exact⟨by decide,by decide⟩⟩
def LkP (rs:List Rx) (x t:Str) (k:Int) (rs':List Rx):Prop:=(¬ (isN x=true/\isN t=true)/\k=60/\rs'=rs) ∨ ((isN x=true/\isN t=true)/\((x=t/\k=64/\rs'=rs) ∨ (x ≠ t/\((Rk.clD ((Rk.setL geS x (some (zQ,t)) rs false).map (·.1))/\k=63/\rs'=rs) ∨ (¬ Rk.clD ((Rk.setL geS x (some (zQ,t)) rs false).map (·.1))/\k=0/\rs'=Rk.setL geS x (some (zQ,t)) rs false)))))
def Post24 (G Q:Nat) (v2:Value) (rs:List Rx) (ls:List Ex) (x t:Str) (w:World) (e:Ending) (w':World):Prop := ∃ k rs',LkP rs x t k rs'/\e=.returned (.int .i64 k)/\(∃ v,Dq G w' Q v v2 rs' ls)/\Al (fun i=>i=Q) w w'
set_option maxHeartbeats 2000000 in
theorem linkD_any {G Q:Nat} {v1 v2:Value} {rs:List Rx} {ls:List Ex} (x t:Str) (w:World) (h:Dq G w Q v1 v2 rs ls) (hG:G<=w.heap.size) (hn:rs.length+1<=100000) :
  Calls Tryz.prog 24 #[.pointer (some ⟨Q,0,none⟩),sV x,sV t] w (Post24 G Q v2 rs ls x t w):=by
 obtain⟨r,HR⟩:=nm_ w.heap.size
 have hQr:Q<r:=by rw[<-HR.out];exact z7 h.box
 have hi1:=vW x w
 have hi2:=fun W=>vW t W
 have HD:Hid (∀ W,Below r w W->Dq G W Q v1 v2 rs ls):=fun W hW=>h.below (by rw[HR.out];exact hW)
 have HSAME:Hid (∀ k W,LkP rs x t k rs->Below r w W->Post24 G Q v2 rs ls x t w (.returned (.int .i64 k)) W):=fun k W hl hW=>⟨k,rs,hl,rfl,⟨_,HD.out W hW⟩,Al.below (by rw[HR.out];exact hW)⟩
 have hGr:G<=r:=by rw[<-HR.out];exact hG
 rw[HR.out] at hi1
 by_cases hx:isN x=true
 ·by_cases ht:isN t=true
  ·rw[hx] at hi1
   rw[ht] at hi2
   by_cases hxt:x=t
   ·subst hxt
    have HL:Hid (LkP rs x x 64 rs):=hid (.inr ⟨⟨hx,hx⟩,.inl ⟨rfl,rfl,rfl⟩⟩)
    unfold sV at hi1 hi2 ⊢
    clear h
    go_enter Tryz.func24,Tryz.ntmps24
    go_wp2_with (first
     | (go_at_call 51;refine hi1.mono ?_;rintro e w1 ⟨rfl,hb⟩;have B1:=hid hb;clear hb hi1)
     | (go_at_call 51;refine(hi2 _).mono ?_;rintro e w2 ⟨rfl,hb⟩;have B2:Hid (Below r w w2):=hid (B1.out.trans (hb.mono (by have:=B1.out.size;have:=HR.out;omega)));clear hb hi2))
    exact bodyPost_ret (results_tmp Tryz.results24 _ _ _) rfl (HSAME.out _ _ HL.out B2.out)
   ·have hne:(x == t)=false:=by simpa using hxt
    obtain⟨X,HX⟩:=nm_ (⟨x.toArray⟩:ByteArray)
    obtain⟨T,HT⟩:=nm_ (⟨t.toArray⟩:ByteArray)
    have hxo:Z9 (x,(zQ,t)):=⟨qZ hx,z20_ok,qZ ht⟩
    obtain⟨E,hE⟩:∃ E,qX (x,(zQ,t))=E:=⟨_,rfl⟩
    have HBD:Hid (∀ W:World,(Instr.build 88 #[(0,.string X),(2,.string T)]).run Tryz.prog W=.ok (.agg E.toArray) W):=fun W=>by rw[<-hE,<-HX.out,<-HT.out];exact bd88t _ _ W
    have HCP:=hid (fun W (hW:Below r w W)=>copyD_any W (HD.out W hW))
    have HNX:Hid (∀ W e W2,Below r w W->Post18 rs ls W e W2->∃ C,e=.returned (.pointer (some ⟨C,0,none⟩))/\Below r w W2/\Calls Tryz.prog 54 #[.pointer (some ⟨C,0,none⟩),.agg E.toArray,.bool false] W2 fun e3 W3=>e3=.returned (.tuple #[])/\Below r w W3/\Calls Tryz.prog 55 #[.pointer (some ⟨C,0,none⟩)] W3 fun e4 W4=>∃ b:Bool,e4=.returned (.bool b)/\W4=W3/\(b=true->Post24 G Q v2 rs ls x t w (.returned (.int .i64 63)) W3)/\(b=false->∃ va n vc u0,W3.cell? ⟨C,0,none⟩=some (.slice va n vc)/\W3.cell? ⟨Q,0,none⟩=some u0/\W3.frozen? ⟨Q,0,none⟩=false/\Post24 G Q v2 rs ls x t w (.returned (.int .i64 0)) (W3.setCell ⟨Q,0,none⟩ (.slice va n vc)))):=fun W e W2 hW hp=>by
     obtain⟨C,u1,u2,rfl,hC,hD,hb⟩:=hp
     have hWr:r<=W.heap.size:=by have:=hW.size;have:=HR.out;omega
     have hb2:Below r w W2:=hW.trans (hb.mono hWr)
     refine⟨C,rfl,hb2,?_⟩
     rw[<-hE]
     refine(set_doc (x,(zQ,t)) hxo false W2 hD hb.size hn).mono ?_
     rintro e3 W3 ⟨rfl,⟨v,hD3⟩,hal⟩
     have hb3:Below r w W3:=⟨hal.os.trans hb2.os,hal.tape.trans hb2.tape,hal.output.trans hb2.output,Nat.le_trans hb2.size hal.size,fun i hi=>(hal.blk i (by have:=hb.size;omega) (by omega)).trans (hb2.block i hi)⟩
     refine⟨rfl,hb3,(clash_doc W3 hD3).mono ?_⟩
     rintro e4 W4 ⟨b,rfl,hbi,rfl⟩
     refine⟨b,rfl,rfl,fun hb1=>?_,fun hb0=>?_⟩
     ·exact HSAME.out 63 _ (.inr ⟨⟨hx,ht⟩,.inr ⟨hxt,.inl ⟨hbi.1 hb1,rfl,rfl⟩⟩⟩) hb3
     ·obtain⟨va,vc,hv,_,_,hc⟩:=hD3.px1
      have hq:=HD.out _ hb3
      obtain⟨qa,qc,hqv,_,_,hqc⟩:=hq.px1
      subst hv
      refine⟨va,_,vc,_,hc,hqc,by simp[World.frozen?,hq.box],0,_,.inr ⟨⟨hx,ht⟩,.inr ⟨hxt,.inr ⟨fun hcl=>(by rw[hbi.2 hcl] at hb0;cases hb0),rfl,rfl⟩⟩⟩,rfl,⟨.slice va (Rk.setL geS x (some (zQ,t)) rs false).length vc,?_⟩,(Al.below (S:=fun i=>i=Q) (show Below w.heap.size w W4 by rw[HR.out];exact hb3)).trans (Al.of_set (S:=fun i=>i=Q) (p:=⟨Q,0,none⟩) rfl _) (fun i h=>.inl h)⟩
      have htf:∀ u,Tf 31 W4 (W4.setCell ⟨Q,0,none⟩ u):=fun u=>Tf.set (p:=⟨Q,0,none⟩) hq.box u
      exact⟨by rw[qy hq.box];rfl,qk (zV hD3.r1 (htf _) (by decide)) (by omega),zV hq.r2 (htf _) (by decide),hD3.ok1,hq.ok2,hD3.few.1,hq.few.2⟩
    unfold sV at hi1 hi2 ⊢
    rw[HX.out] at hi1
    rw[HT.out] at hi2
    rw[HX.out,HT.out]
    have hee:(X.toList == T.toList)=false:=by rw[<-HX.out,<-HT.out,Lib.toList_data,Lib.toList_data];exact hne
    have hee2:(X == T)=false:=by rw[beq_toListBytes];exact hee
    clear h hE
    go_enter Tryz.func24,Tryz.ntmps24
    go_wp2_with (first
     | (go_at_call 51;refine hi1.mono ?_;rintro e w1 ⟨rfl,hb⟩;have B1:=hid hb;clear hb hi1)
     | (go_at_call 51;refine(hi2 _).mono ?_;rintro e w2 ⟨rfl,hb⟩;have B2:Hid (Below r w w2):=hid (B1.out.trans (hb.mono (by have:=B1.out.size;have:=HR.out;omega)));clear hb hi2)
     | (go_at_call 18;refine(HCP.out _ B2.out).mono ?_;rintro e w3 hp;obtain⟨C,he,hb3,c54⟩:=HNX.out _ _ _ B2.out hp;subst he;have C54:=hid c54;clear hp hb3 c54)
     | (refine z8 rfl (.agg E.toArray) (xJ 88 0 2 (.tmp 27) (.tmp 28) rfl (.string X) (.string T) _ rfl rfl (HBD.out _)) ?_;go_frame)
     | (go_at_call 54;refine C54.out.mono ?_;rintro e w4 ⟨rfl,hb4,c55⟩;have C55:=hid c55;clear hb4 c55)
     | (go_at_call 55;refine C55.out.mono ?_;rintro e w5 ⟨b,rfl,hw5,p1,p2⟩;have hw5':=hw5.symm;subst hw5';have P1:=hid p1;have P2:=hid p2;clear hw5 p1 p2;refine Hid.out ?_))
    refine hid ?_
    cases b with
    | true =>
     go_wp2
     exact bodyPost_ret (results_tmp Tryz.results24 _ _ _) rfl (P1.out (by simp))
    | false =>
     obtain⟨va,n,vc,u0,q1,q2,q3,q4⟩:=P2.out (by simp)
     have Q4:=hid q4
     clear q4
     go_wp2
     exact bodyPost_ret (results_tmp Tryz.results24 _ _ _) rfl Q4.out
  ·have ht':isN t=false:=by simpa using ht
   rw[hx] at hi1
   rw[ht'] at hi2
   have HL:Hid (LkP rs x t 60 rs):=hid (.inl ⟨fun hh=>ht hh.2,rfl,rfl⟩)
   unfold sV at hi1 hi2 ⊢
   clear h
   go_enter Tryz.func24,Tryz.ntmps24
   go_wp2_with (first
    | (go_at_call 51;refine hi1.mono ?_;rintro e w1 ⟨rfl,hb⟩;have B1:=hid hb;clear hb hi1)
    | (go_at_call 51;refine(hi2 _).mono ?_;rintro e w2 ⟨rfl,hb⟩;have B2:Hid (Below r w w2):=hid (B1.out.trans (hb.mono (by have:=B1.out.size;have:=HR.out;omega)));clear hb hi2))
   exact bodyPost_ret (results_tmp Tryz.results24 _ _ _) rfl (HSAME.out _ _ HL.out B2.out)
 ·have hx':isN x=false:=by simpa using hx
  rw[hx'] at hi1
  have HL:Hid (LkP rs x t 60 rs):=hid (.inl ⟨fun hh=>hx hh.1,rfl,rfl⟩)
  have HI2:Hid (∀ W,∃ b:Bool,Calls Tryz.prog 51 #[sV t] W fun e w'=>e=.returned (.bool b)/\Below W.heap.size W w'):=fun W=>⟨_,hi2 W⟩
  obtain⟨bt,hbt⟩:∃ b,isN t=b:=⟨_,rfl⟩
  rw[hbt] at hi2
  unfold sV at hi1 hi2 ⊢
  clear h
  go_enter Tryz.func24,Tryz.ntmps24
  go_wp2_with (first
   | (go_at_call 51;refine hi1.mono ?_;rintro e w1 ⟨rfl,hb⟩;have B1:=hid hb;clear hb hi1)
   | (go_at_call 51;refine(hi2 _).mono ?_;rintro e w2 ⟨rfl,hb⟩;have B2:Hid (Below r w w2):=hid (B1.out.trans (hb.mono (by have:=B1.out.size;have:=HR.out;omega)));clear hb hi2))
  exact bodyPost_ret (results_tmp Tryz.results24 _ _ _) rfl (HSAME.out _ _ HL.out B2.out)
theorem elem98:Tryz.prog.underlying 98=some (.slice (Tryz.prog.elem 98)):=by kernel_rfl
theorem size98e (w:World):(Go.sizeOf (Tryz.prog.elem 98)).run Tryz.prog w=.ok 45 w:=by kernel_rfl
theorem sl98l (a:Option Addr) (n cap i:Nat) (I:Int) (hI:I=(i:Int)) (hi:i<=n) (w:World):(Instr.slice 98 (.slice a n cap) (some (.int .i64 I)) none none).run Tryz.prog w=.ok (.slice (adX 45 a cap i) (n-i:Nat) (cap-i:Nat)) w:=by
 subst hI
 rw[run_slice_l w 98 a n cap elem98 .i64 i (by omega) (by omega),size98e,Result.andThen_ok,sliced]
 rfl
theorem exec_sl1 {P:Program} {o:Oper} {a:Act} {w w':World} {t:TypeId} (x l:Operand) (ho:o.op=.slice t x (some l) none none) (hu:P.underlying t=some (.slice (P.elem t))) {xv lv v:Value} (hx:a.eval x=xv) (hl:a.eval l=lv) (hr:(Instr.slice t xv (some lv) none none).run P w=.ok v w'):(execOp a.eval o).run P w=.ok (.value v) w':=by
 have:=run_sliceAt_slice (P:=P) (w:=w) t xv (some lv) none none hu
 rw[hr] at this
 unfold execOp
 simp[ho,hx,hl,this,Result.andThen]
theorem Tt.upd {S:Nat->Prop} {w w':World} {t n:Nat} {T:Ts} (h:Tt S w t n T) {x:Str} {r:Lr} (hr:Yu S w x r) (hT:TM (rV r0) w' t (n+1) (vT (uT T x (some r)))) (hg:w.grownBy w' (some t)):Tt S w' t (n+1) (uT T x (some r)):=by
 obtain⟨es,ck,hb⟩:=h.tm.box
 have hok:∀ y q,Yu S w y q->Yu S w' y q:=fun y q hq=>by
  refine⟨hq.nm,hq.id,hq.tg,⟨hq.px.capl,fun h0=>?_,hq.px.nil⟩,hq.few,hq.ok,fun p hp=>⟨(hq.out p hp).1,Nat.lt_of_lt_of_le (hq.out p hp).2 hg.size⟩⟩
  obtain⟨b,off,e1,e2,e3⟩:=hq.px.at_ h0
  refine⟨b,off,e1,Nat.lt_of_lt_of_le e2 hg.size,fun i hi j v hv=>?_⟩
  rw[World.cell?_of_block (a:=⟨b,off+i*45+j,none⟩) (hg.block b e2 (fun e=>by
   cases e
   have h5:=e3 i hi j v hv
   simp[World.cell?,hb] at h5))]
  exact e3 i hi j v hv
 refine⟨hT,fun y q hq=>?_,h.out⟩
 unfold uT at hq
 by_cases e:y=x
 ·rw[if_pos e] at hq;cases hq;rw[e];exact hok x _ hr
 ·rw[if_neg e] at hq;exact hok y q (h.at_ y q hq)
theorem log_set {r:Lr} {A:Array Value} (h:rV r=.agg A) (hr:r.id.length=20) (va:Option Addr) (vc:Nat) (l:List Le):(.agg (A.setIfInBounds 21 (.slice va l.length vc)):Value)=rV { r with a:=va,c:=vc,log:=l }:=by
 unfold rV at h ⊢
 injection h with h
 have hl:(row .u8 r.id).length=20:=by rw[zw];exact hr
 rw[<-h,List.setIfInBounds_toArray,List.set_append_right _ _ (by omega),hl]
 rfl
def exT (m:Rk.Tb Str Kp Le) (x:Str) (i:Nat):Rk.Tb Str Kp Le:=fun b=>if b=x then (m x).map fun y=>(y.1,y.2.drop i) else m b
def Post26 (S XE:Nat->Prop) (N D R n:Nat) (T:Ts) (x:Str) (k:Int) (w:World) (e:Ending) (w':World):Prop:=match gt T x with
 | .error kk=>Told kk w e w'
 | .ok r=>Qy S XE N D R (n+1) Anew (exT (aT T) x (r.log.length-k.toNat)) w e w'
theorem px_none {α:Type} {enc:α->List Value} {k:Nat} {d:α} (w:World):Px enc k d w none 0 []:=⟨Nat.le_refl _,fun h=>absurd h (by simp),fun _=>rfl⟩
theorem below_set {g:Nat} {w W:World} (h:Below g w W) {p:Addr} (hp:g<=p.block) (v:Value):Below g w (W.setCell p v) :=
 ⟨h.os,h.tape,h.output,by simp[World.setCell];exact h.size,fun i hi=>by rw[Below.heap_setCell _ _ _ i (by omega)];exact h.block i hi⟩
set_option maxHeartbeats 2000000 in
theorem expire_any (S XE:Nat->Prop) (N D R:Nat) (w:World) (f:Option Str) (t n:Nat) (T:Ts) (x:Str) (k:Int) (hk1 : -9223372036854775808<=k) (hk2:k<=9223372036854775807) (h:Pw S XE N D R w f t n T) (hN:N<=70000) (hn:n<=70000) (hfl:∀ f0,f=some f0->f0.length<=200000000) (hF:∀ T' i,aT T'=exT (aT T) x i->Few T') (ht:Tab w) (hdb:Db w) (hmx:Mx w) :
  Calls Tryz.prog 26 #[.pointer (some ⟨R,0,none⟩),sV x,.int .i64 k] w (Post26 S XE N D R n T x k w):=by
 obtain⟨rr,HR⟩:=nm_ w.heap.size
 have hg:=get_any (SrE S R XE) t n T x w h.tt hmx
 have h1:=h.rf.c.2.1
 unfold PostG at hg
 rw[HR.out] at hg
 unfold Post26
 cases hgt:gt T x with
 | error kk =>
  obtain⟨A,HA⟩:=ra r0 rfl
  rw[hgt] at hg
  simp only[HA.out.e] at hg
  have HE:Hid (∀ W,Below rr w W->Told kk w (.returned (.iface 44 (.int .i64 kk))) (W.alloc (.cells A 125))):=fun W hW=>⟨rfl,by rw[HR.out];exact hW.alloc (by have:=hW.size;have:=HR.out;omega) _⟩
  unfold sV at hg ⊢
  clear h hF hgt
  go_enter Tryz.func26,Tryz.ntmps26
  go_wp2_with (first
   | (go_at_call 60;refine hg.mono ?_;rintro e w1 ⟨rfl,hb1⟩;have E1:=hid (HE.out w1 hb1);clear hb1)
   | (refine zq rfl 125 (.tmp 7) (.tmp 17) rfl _ A rfl rfl HA.out.i HA.out.z HA.out.o ?_))
  exact bodyPost_ret (results_tmp Tryz.results26 _ _ _) rfl E1.out
 | ok r =>
  obtain⟨hr,hTx,hnx⟩:=gt_id h.tt hgt
  obtain⟨A,HA⟩:=ra r hr.id.1
  rw[hgt] at hg
  simp only[HA.out.e] at hg
  obtain⟨L,HL⟩:=nm_ r.log.length
  have hL9:L<=100000:=by rw[<-HL.out];exact hr.few
  obtain⟨i,hi⟩:∃ i,L-k.toNat=i:=⟨_,rfl⟩
  have hiL:i<=L:=by omega
  show Calls Tryz.prog 26 #[.pointer (some ⟨R,0,none⟩),sV x,.int .i64 k] w (fun e w'=>Qy S XE N D R (n+1) Anew (exT (aT T) x (r.log.length-k.toNat)) w e w')
  rw[HL.out,hi]
  have HNX:Hid (∀ W1,Below rr w W1->∃ K,W1.heap.size=K/\∃ W2,W1.alloc (.cells A 125)=W2/\W2.cell? ⟨K,21,none⟩=some (.slice r.a L r.c)/\Calls Tryz.prog 61 #[.slice (adX 45 r.a r.c i) (L-i:Nat) (r.c-i:Nat)] W2 fun e3 w3=>∃ va vl vc u0,e3=.returned (.slice va vl vc)/\w3.cell? ⟨K,21,none⟩=some u0/\w3.frozen? ⟨K,21,none⟩=false/\∃ W4,w3.setCell ⟨K,21,none⟩ (.slice va vl vc)=W4/\w3.cell? ⟨R,1,none⟩=some (.map (some t))/\Calls Tryz.prog 47 #[.map (some t),.slice none 0 0] W4 fun e5 w5=>∃ t' V w6,e5=.returned (.map (some t'))/\w5.heap[K]? = some (.cells V 125)/\(Tryz.prog.info? 125).map (·.size)=some V.size/\(Instr.mapUpdate 105 (.map (some t')) (.string ⟨x.toArray⟩) (.agg V)).run Tryz.prog w5=.ok () w6/\Calls Tryz.prog 59 #[.pointer (some ⟨R,0,none⟩),.map (some t')] w6 (Qy S XE N D R (n+1) Anew (exT (aT T) x i) w)):=fun W1 hW1=>by
   refine⟨_,rfl,_,rfl,?_⟩
   have hrr:rr<=W1.heap.size:=by have:=hW1.size;have:=HR.out;omega
   obtain⟨W2,hW2⟩:∃ W2,W1.alloc (.cells A 125)=W2:=⟨_,rfl⟩
   have hb2:Below rr w W2:=by rw[<-hW2];exact hW1.alloc hrr _
   have hb2':Below w.heap.size w W2:=by rw[HR.out];exact hb2
   have hk2:W2.heap[W1.heap.size]? = some (.cells A 125):=by rw[<-hW2];exact heap_alloc_new _ _
   have hc2:=(vq HA.out hr.id.1 W1).2
   rw[hW2,HL.out] at hc2
   rw[hW2]
   refine⟨hc2,?_⟩
   have hlen:(r.log.drop i).length=L-i:=by rw[List.length_drop,HL.out]
   have hcl:=clone_log (adX 45 r.a r.c i) (r.c-i) (r.log.drop i) W2 ((hr.px.from i (by rw[HL.out];exact hiL)).below hb2') (fun e he=>hr.ok e (List.mem_of_mem_drop he)) (by rw[hlen];omega)
   rw[hlen] at hcl
   refine hcl.mono ?_
   rintro e3 w3 ⟨v,rfl,hbx⟩
   obtain⟨va,vc,rfl,hPx,hpb,_⟩:=hbx.px (d:=dL) (fun e he=>yx (hr.ok e (List.mem_of_mem_drop he)))
   rw[hlen]
   have hk3:w3.heap[W1.heap.size]? = some (.cells A 125):=(hbx.below.block _ (z7 hk2)).trans hk2
   have hc3:w3.cell? ⟨W1.heap.size,21,none⟩=some (.slice r.a L r.c):=(hbx.below.cell (p:=⟨W1.heap.size,21,none⟩) (z7 hk2)).trans hc2
   have hb3:Below w.heap.size w w3:=hb2'.trans (hbx.below.mono hb2'.size)
   refine⟨va,_,vc,_,rfl,hc3,by simp[World.frozen?,hk3],_,rfl,?_⟩
   obtain⟨W4,hW4⟩:∃ W4,w3.setCell ⟨W1.heap.size,21,none⟩ (.slice va (L-i:Nat) vc)=W4:=⟨_,rfl⟩
   have hb4:Below w.heap.size w W4:=by rw[<-hW4];exact below_set hb3 (by show _<=W1.heap.size;rw[HR.out];exact hrr) _
   have hk4:W4.heap[W1.heap.size]? = some (.cells (A.setIfInBounds 21 (.slice va (L-i:Nat) vc)) 125):=by rw[<-hW4,qy hk3]
   have h4:=h.below hb4
   rw[hW4]
   refine⟨(h.below hb3).rf.c.2.1,?_⟩
   refine(YZ (SrE S R XE) t n T none 0 [] W4 h4.tt h4.lim (px_none _) trivial (by simp;omega)).mono ?_
   rintro e5 w5 ⟨t',T',rfl,hTo,hA,hb5⟩
   have hb5':Below w.heap.size w w5:=hb4.trans (hb5.mono hb4.size)
   have hk5:=(hb5.block _ (z7 hk4)).trans hk4
   obtain⟨w6,hpu,hT6,hg6⟩:=hTo.tt.tm.put (by simp;omega) xu (x:=x) (by have:=hr.nm;omega) (rV { r with a:=va,c:=vc,log:=r.log.drop i })
   have hV:=log_set HA.out.e hr.id.1 va vc (r.log.drop i)
   rw[hlen] at hV
   rw[<-hV] at hpu
   refine⟨t',_,w6,rfl,hk5,by rw[Array.size_setIfInBounds];exact HA.out.i,hpu,?_⟩
   have hok5:Yu (SrE S R XE) w5 x { r with a:=va,c:=vc,log:=r.log.drop i }:=by
    have hpx4:Px qv 45 dL w5 va vc (r.log.drop i):=by
     have hne:∀ p:Addr,va=some p->p.block ≠ W1.heap.size:=fun p hp e=>by have:=(hpb p hp).1;have:=z7 hk2;omega
     have h43:Px qv 45 dL W4 va vc (r.log.drop i):=hPx.tf (fun q hq=>by rw[<-hW4,Below.heap_setCell _ _ _ _ (hne q hq)]) (by rw[<-hW4];simp[World.setCell])
     exact h43.below hb5
    refine⟨hr.nm,hr.id,hr.tg,hpx4,by show (r.log.drop i).length<=_;rw[hlen];omega,fun e he=>hr.ok e (List.mem_of_mem_drop he),fun p hp=>⟨fun hs=>?_,?_⟩⟩
    ·have h5:=h.lim _ hs
     have h6:=(hpb p hp).1
     have:=hb2'.size
     omega
    ·have h6:=(hpb p hp).2
     have h7:W4.heap.size=w3.heap.size:=by rw[<-hW4];simp[World.setCell]
     have:=hb5.size
     omega
   have hvt:vT (uT T' x (some { r with a:=va,c:=vc,log:=r.log.drop i }))=fun y=>if y=x then some (rV { r with a:=va,c:=vc,log:=r.log.drop i }) else vT T' y:=vT_uT _ _ _
   rw[<-hvt] at hT6
   have hTt6:=hTo.tt.upd hok5 hT6 hg6
   have hb6:Below w.heap.size w w6:=⟨hg6.os.trans hb5'.os,hg6.tape.trans hb5'.tape,hg6.output.trans hb5'.output,Nat.le_trans hb5'.size hg6.size,fun j hj=>by
    have:=hTo.ge
    have:=hb4.size
    rw[hg6.block j (by have:=hb5'.size;omega) (fun e=>by cases e;omega)]
    exact hb5'.block j hj⟩
   have hA6:aT (uT T' x (some { r with a:=va,c:=vc,log:=r.log.drop i }))=exT (aT T) x i:=by
    have e0:aT T'=aT T:=by rw[hA];rfl
    funext y
    have ey:=congrFun e0 y
    unfold exT
    by_cases e:y=x
    ·subst e
     simp only[if_true]
     simp only[aT,uT,if_true,hTx,Option.map_some]
    ·simp only[if_neg e]
     rw[<-ey]
     simp only[aT,uT,if_neg e]
   have:=anew_pw S XE N D R w w6 f t n t' _ T _ h hb6 hTt6 hN (by simp;omega) hfl (hF _ i hA6) (ht.below hb6) (hdb.below hb6)
   rw[hA6] at this
   exact this
  unfold sV at hg ⊢
  obtain⟨XB,HX⟩:=nm_ (⟨x.toArray⟩:ByteArray)
  rw[HX.out] at hg HNX ⊢
  obtain⟨SL,HSL⟩:=nm_ (.slice (adX 45 r.a r.c i) (L-i:Nat) (r.c-i:Nat):Value)
  have HSLR:Hid (∀ (W:World) (I:Int),I=(i:Int)->(Instr.slice 98 (.slice r.a L r.c) (some (.int .i64 I)) none none).run Tryz.prog W=.ok SL W):=fun W I hI=>by rw[<-HSL.out];exact sl98l r.a L r.c i I hI hiL W
  rw[HSL.out] at HNX
  clear h hF hgt hr hTx
  have hLi:¬ (L:Int)<0:=by omega
  have HIV:Hid ((L:Int)-min (max k 0) (L:Int)=(i:Int)):=hid (by omega)
  go_enter Tryz.func26,Tryz.ntmps26
  go_wp2_with (first
   | (go_at_call 60;refine hg.mono ?_;rintro e w1 ⟨rfl,hb1⟩;obtain⟨K,hK,W2,hW2,hc2,c61⟩:=HNX.out w1 hb1;have HK:=hid hK;have HW2:=hid hW2;have C61:=hid c61;clear hb1 hK hW2 c61 HNX)
   | (refine zq rfl 125 (.tmp 7) (.tmp 17) rfl _ A rfl rfl HA.out.i HA.out.z HA.out.o ?_;rw[HK.out,HW2.out])
   | (refine z8 rfl SL (exec_sl1 (xv:=.slice r.a L r.c) (lv:=.int .i64 ((L:Int)-min (max k 0) (L:Int))) (.tmp 29) (.tmp 34) rfl elem98 rfl rfl (HSLR.out _ _ HIV.out)) ?_;go_frame)
   | (go_at_call 61;refine C61.out.mono ?_;rintro e w3 ⟨va,vl,vc,u0,rfl,hc3,hf3,W4,hW4,hc4,c47⟩;rw[<-hW4] at c47;have C47:=hid c47;clear hW4 c47)
   | (go_at_call 47;refine C47.out.mono ?_;rintro e w5 ⟨t',V,w6,rfl,hk5,hi5,hpu,c59⟩;have HK5:=hid hk5;have HI5:=hid hi5;have HPU:=hid hpu;have C59:=hid c59;clear hk5 hi5 hpu c59)
   | (refine zu rfl 125 (.tmp 7) rfl _ V 125 (0,0) _ rfl HK5.out Tryz.underlying125 rfl HI5.out ?_;go_frame)
   | (at_mapUpdate;refine xY rfl (x9 (mv:=.map (some t')) (kv:=.string XB) (v:=.agg V) rfl rfl rfl rfl HPU.out) ?_;go_frame)
   | (go_at_call 59;refine C59.out.mono ?_;rintro e w7 k7;obtain⟨_,_,_,_,rfl,_⟩:=id k7;have K7:=hid k7;clear k7))
  exact bodyPost_ret (results_tmp Tryz.results26 _ _ _) rfl K7.out
end Go.Proofs.YtgliaiemkfopeaaGreatDoor.K
