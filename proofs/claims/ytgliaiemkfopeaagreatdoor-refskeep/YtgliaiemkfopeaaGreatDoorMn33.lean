import Derived.Test.YtgliaiemkfopeaaGreatDoorMn23
import Derived.Test.YtgliaiemkfopeaaGreatDoorMn29
import Derived.Test.YtgliaiemkfopeaaGreatDoorMn31
import Derived.Test.YtgliaiemkfopeaaGreatDoorMn32
set_option linter.unusedSimpArgs false
set_option linter.unusedVariables false
set_option maxRecDepth 20000
set_option maxHeartbeats 4000000
namespace Go.Proofs.YtgliaiemkfopeaaGreatDoor.K
open Go.RowKit
theorem Tryz.results17:Tryz.f17.results=#[]:=by kernel_rfl
theorem fd_set {S:Nat->Prop} {N D:Nat} {zs:List Int} {w:World} (h:FD S N w D (some zs)) (h0:0<zs.length):∃ B g c m,w.cell? ⟨D,0,none⟩=some (.map (some m))/\(Instr.lookup 50 (.map (some m)) (sV pr) false).run Tryz.prog w=.ok (.pointer (some ⟨B,0,none⟩)) w/\w.cell? ⟨B,0,none⟩=some (.slice (some ⟨g,0,none⟩) zs.length c)/\zs.length<=c/\(∀ j,j<zs.length->(∃ x,w.cell? ⟨g,j,none⟩=some (.int .u8 x))/\w.frozen? ⟨g,j,none⟩=false/\∀ y,FD S N (w.setCell ⟨g,j,none⟩ (.int .u8 y)) D (some (zs.set j y))/\Al S w (w.setCell ⟨g,j,none⟩ (.int .u8 y))):=by
 obtain⟨F,⟨m,gs,mv,n,ns,Ms,ls,k⟩,h2,h3⟩:=h
 cases hF:F pr with
 | none=>rw[hF] at h3;cases h3
 | some f =>
  rw[hF] at h3
  have hz:f.zs=zs:=Option.some.inj h3
  subst hz
  obtain⟨hn,hx,hS,hk⟩:=k.fs.nd pr f hF
  have hl:=k.now.look1 kW (zero59 w) hx
  rw[show ptF F pr=some (.pointer (some ⟨f.B,0,none⟩)) by simp[ptF,hF],Option.getD_some] at hl
  have hown:=hn.own
  obtain⟨hll,⟨hv,hz⟩ | ⟨g,cap,cur,hv,hb,hh,hkc,hcm,hsz,htk⟩⟩:=hown
  ·omega
  ·refine⟨f.B,g,cap,m,k.c0.1,hl,by simp[World.cell?,hn.box,hv],hkc,fun j hj=>?_⟩
   have hcur:∀ i,i<f.zs.length->cur.toList[i]? = some (.int .u8 (f.zs.getD i 0)):=fun i hi=>by
    have:=congrArg (fun l=>l[i]?) htk
    simp only[Nat.mul_one] at this
    rw[List.getElem?_take,if_pos hi] at this
    rw[this]
    simp[row,List.getD_eq_getElem?_getD,List.getElem?_eq_getElem hi]
   refine⟨⟨f.zs.getD j 0,?_⟩,by simp[World.frozen?,hh],fun y=>?_⟩
   ·rw[cell_of_row _ _ j _ _ _ hh]
    have:=hcur j hj
    simpa using this
   ·have htf:Tf 5 w (w.setCell ⟨g,j,none⟩ (.int .u8 y)):=Tf.set (p:=⟨g,j,none⟩) hh _
    have hsg:S g:=hk g (by rw[hv];rfl)
    refine⟨⟨upd F pr (some { f with zs:=f.zs.set j y }),⟨m,gs,mv,n,ns,Ms,ls,?_⟩,fun y hy=>by rw[uw _ _ _ _ hy];exact h2 y hy,by rw[jQ];rfl⟩,Al.of_set (p:=⟨g,j,none⟩) hsg _⟩
    have hpt:ptF (upd F pr (some { f with zs:=f.zs.set j y }))=ptF F:=by
     funext x
     unfold ptF
     by_cases e:x=pr
     ·subst e;rw[jQ,hF];rfl
     ·rw[uw _ _ _ _ e]
    refine⟨htf.of (by decide) k.box,by rw[hpt];exact k.now.tf htf,k.safe.tf htf,k.ne,⟨fun x q hq=>?_,fun x z q r hq hr hne=>?_⟩,k.mv.tf htf (by simp[World.setCell]) (by decide) (by decide),k.few,k.own⟩
    ·by_cases e:x=pr
     ·subst e
      rw[jQ] at hq
      cases hq
      refine⟨⟨htf.of (by decide) hn.box,?_⟩,hx,hS,hk⟩
      refine⟨by simp[row],.inr ⟨g,cap,cur.setIfInBounds j (.int .u8 y),by simp[hv],hb,by rw[qy hh],by simpa using hkc,hcm,by simpa using hsz,?_⟩⟩
      simp only[Array.toList_setIfInBounds,Nat.mul_one,List.length_set]
      rw[List.take_set]
      simp only[Nat.mul_one] at htk
      rw[htk]
      simp[row,List.map_set]
     ·rw[uw _ _ _ _ e,h2 x e] at hq
      cases hq
    ·by_cases e:x=pr
     ·by_cases e2:z=pr
      ·exact absurd (e.trans e2.symm) hne
      ·rw[uw _ _ _ _ e2,h2 z e2] at hr;cases hr
     ·rw[uw _ _ _ _ e,h2 x e] at hq;cases hq
theorem fd_remove (S:Nat->Prop) (N D:Nat) (zs:List Int) (w:World) (h:FD S N w D (some zs)) (hN:N<=90000) :
  Calls Tryz.prog 16 #[.pointer (some ⟨D,0,none⟩),sV pr] w fun e w'=>e=.returned .nilIface/\FD (Sx S w w') (N+2) w' D none/\Al S w w':=by
 obtain⟨F,h1,h2,h3⟩:=h
 cases hF:F pr with
 | none=>rw[hF] at h3;cases h3
 | some f =>
  refine(remove_any S N D F f pr w h1 hF hN).mono ?_
  rintro e w' ⟨rfl,k1,k2⟩
  exact⟨rfl,⟨_,k1,fun y hy=>by rw[uw _ _ _ _ hy];exact h2 y hy,by rw[jQ];rfl⟩,k2⟩
set_option maxHeartbeats 1000000 in
theorem flip_any (S:Nat->Prop) (N D:Nat) (zs:List Int) (k:Nat) (hk:k<18446744073709551616) (w:World) (h:FD S N w D (some zs)) (hl:zs.length<=500000000) (h0:0<zs.length) :
  Calls Tryz.prog 17 #[.pointer (some ⟨D,0,none⟩),sV pr,.int .u64 k] w fun e w'=>e=.returned (.tuple #[])/\(∃ zs',zs'.length=zs.length/\FD S N w' D (some zs'))/\Al S w w':=by
 obtain⟨B,g,c,m,c0,hlk,c1,hc,hset⟩:=fd_set h h0
 obtain⟨n,hn⟩:∃ n,zs.length=n:=⟨_,rfl⟩
 rw[hn] at c1 hc hset hl h0
 have HSET:Hid (∀ j,j<n->(∃ x,w.cell? ⟨g,j,none⟩=some (.int .u8 x))/\w.frozen? ⟨g,j,none⟩=false/\∀ y,FD S N (w.setCell ⟨g,j,none⟩ (.int .u8 y)) D (some (zs.set j y))/\Al S w (w.setCell ⟨g,j,none⟩ (.int .u8 y))):=hid hset
 unfold sV pr at hlk
 unfold sV pr
 have hn0:(0:Int)<(n:Int):=by omega
 obtain⟨q,hq⟩:∃ q,k % (8*n)=q:=⟨_,rfl⟩
 have hq8:q<8*n:=by rw[<-hq];exact Nat.mod_lt _ (by omega)
 have hqi:(k:Int) % (8*(n:Int))=(q:Int):=by rw[<-hq];push_cast;rfl
 obtain⟨j,hj⟩:∃ j,q / 8=j:=⟨_,rfl⟩
 have hjn:j<n:=by omega
 have hji:(j:Int)<(n:Int):=by omega
 have htd:(q:Int).tdiv 8=(j:Int):=by rw[Int.tdiv_eq_ediv_of_nonneg (by omega)];omega
 have hwr:IntKind.u64.wrap (j:Int)=(j:Int):=by
  have:(j:Int)<18446744073709551616:=by omega
  have h0:(0:Int)<=(j:Int):=by omega
  simp[IntKind.wrap,IntKind.bits,IntKind.signed]
  omega
 obtain⟨⟨x0,hx0⟩,hfz,hpost⟩:=HSET.out j hjn
 have HPO:Hid (∀ y,(∃ zs',zs'.length=zs.length/\FD S N (w.setCell ⟨g,j,none⟩ (.int .u8 y)) D (some zs'))/\Al S w (w.setCell ⟨g,j,none⟩ (.int .u8 y))):=fun y=>⟨⟨_,by simp,(hpost y).1⟩,(hpost y).2⟩
 clear h hset hpost hj hq hn HSET
 go_enter Tryz.func17,Tryz.ntmps17
 go_wp2
 exact bodyPost_end (results_none Tryz.results17 _ _ _) rfl ⟨rfl,HPO.out _⟩
theorem packR_any (S XE:Nat->Prop) (N D R:Nat) (w:World) (o:Option (List Int)) (go:Bool) (t n:Nat) (T:Ts) (h:FD S N w D o) (hR:Rf w R D t go false) (hnS:¬ S R) (hlim:∀ i,SrE S R XE i->i<w.heap.size) (hT:Tt (SrE S R XE) w t n T) (hN:N<=70000) (hn:n<=100000) (hol:∀ z,o=some z->z.length<=500000000) (hF:Few T) (ht:Tab w) (hdb:Db w) :
  Calls Tryz.prog 25 #[.pointer (some ⟨R,0,none⟩)] w (Qy S XE N D R n Anew (aT T) w):=by
 have ha:=(anew2 S N D R t t n go o T w h hR hnS (fun i hi=>hlim i (.inl (.inl hi))) hN hol (hT.to fun i hi=>.inl (.inl hi)) hn hF.ok ht hdb).mono fun e w' hw=>ku (fs:=Anew) hnS hlim (Below.refl _ _) hT hw
 have h1:=hR.c.2.1
 clear h hF hT hR
 go_enter Tryz.func25,Tryz.ntmps25
 go_wp2_with (go_at_call 59;refine ha.mono ?_;rintro e w1 k;obtain⟨_,_,_,_,rfl,_⟩:=id k;have K:=hid k;clear k)
 exact bodyPost_ret (results_tmp Tryz.results25 _ _ _) rfl K.out
theorem Tryz.results8:Tryz.f8.results=#[]:=by kernel_rfl
theorem fd_names (S:Nat->Prop) (N D:Nat) (o:Option (List Int)) (w:World) (h:FD S N w D o) (hN:N<=90000) :
  Calls Tryz.prog 15 #[.pointer (some ⟨D,0,none⟩)] w fun e w'=>Below w.heap.size w w'/\((o=none/\∃ a c,e=.returned (.slice a 0 c)) ∨ (∃ zs,o=some zs/\∃ b off c,e=.returned (.slice (some ⟨b,off,none⟩) 1 c)/\w'.cell? ⟨b,off,none⟩=some (sV pr)/\w.heap.size<=b/\b<w'.heap.size)):=by
 obtain⟨F,h1,h2,h3⟩:=h
 refine(list_any S N D F w h1 hN).mono ?_
 rintro e w' ⟨v,ss,rfl,hnd,hm,ho,hb⟩
 refine⟨hb,?_⟩
 have hall:∀ y ∈ ss,y=pr:=fun y hy=>Classical.byContradiction fun e=>(hm y).1 hy (h2 y e)
 rw[<-jz] at ho
 obtain⟨a,c,rfl,hP,hpa⟩:=vV (enc:=eT) (d:=[]) ho (fun _ _=>rfl)
 cases hF:F pr with
 | none =>
  have hss:ss=[]:=by
   cases ss with
   | nil=>rfl
   | cons x r=>exact absurd (by rw[hall x (by simp)];exact hF) ((hm x).1 (by simp))
  subst hss
  rw[hF] at h3
  exact .inl ⟨h3.symm,a,c,rfl⟩
 | some f =>
  rw[hF] at h3
  have hin:pr ∈ ss:=(hm pr).2 (by rw[hF];simp)
  have hss:ss=[pr]:=by
   match ss,hnd,hall,hin with
   | [],_,_,hin=>cases hin
   | [x],_,hall,_=>rw[hall x (by simp)]
   | x :: y :: r,hnd,hall,_ =>
    exfalso
    have e1:=hall x (by simp)
    have e2:=hall y (by simp)
    rw[List.nodup_cons] at hnd
    exact hnd.1 (by rw[e1,e2];simp)
  subst hss
  obtain⟨b,off,e1,_,e3⟩:=hP.at_ (by simp)
  subst e1
  have:=e3 0 (by simp) 0 _ rfl
  exact .inr ⟨_,h3.symm,b,off,c,rfl,by simpa using this,(hpa _ rfl).1,(hpa _ rfl).2⟩
def YJ (S:Nat->Prop) (N D:Nat) (o:Option (List Int)) (w w':World):Prop := ∃ o',FD (Sx S w w') (N+2) w' D o'/\(∀ z,o'=some z->∃ z0,o=some z0/\z.length=z0.length)/\Al S w w'
set_option maxHeartbeats 1000000 in
theorem rots_none (S:Nat->Prop) (N D X:Nat) (k:Int) (w:World) (h:FD S N w D none) (hN:N<=90000) (hX:w.cell? ⟨X,0,none⟩=some (.pointer (some ⟨D,0,none⟩))) :
  Calls Tryz.prog 8 #[.pointer (some ⟨X,0,none⟩),.int .i64 k] w fun e w'=>e=.returned (.tuple #[])/\YJ S N D none w w':=by
 have hl:Calls Tryz.prog 15 #[.pointer (some ⟨D,0,none⟩)] w fun e w'=>∃ a c,e=.returned (.slice a 0 c)/\YJ S N D none w w':=(fd_names S N D none w h hN).mono fun e w' ⟨hb,hh⟩=>by
  rcases hh with ⟨_,a,c,rfl⟩ | ⟨_,h0,_⟩
  ·exact⟨a,c,rfl,none,(h.below hb).mono (fun i hi=>.inl hi) (by omega),fun z hz=>(by cases hz),Al.below hb⟩
  ·cases h0
 clear h
 go_enter Tryz.func8,Tryz.ntmps8
 go_wp2_with (go_at_call 15;refine hl.mono ?_;rintro e w1 ⟨a,c,rfl,k1⟩;have K1:=hid k1;clear k1)
 go_loopg [5] 0 (fun q iv wr=>iv=.int .i64 0/\q=0/\wr=w1)
 case atStart=>exact⟨rfl,rfl,rfl⟩
 case round =>
  obtain⟨rfl,hq,rfl⟩:=hrel
  go_wp2
  exact bodyPost_end (results_none Tryz.results8 _ _ _) rfl ⟨rfl,K1.out⟩
structure Qr (X D b off:Nat) (W:World):Prop where
 c0:W.cell? ⟨X,0,none⟩=some (.pointer (some ⟨D,0,none⟩))
 c1:W.cell? ⟨b,off,none⟩=some (sV pr)
set_option maxHeartbeats 1000000 in
theorem rots_some (S:Nat->Prop) (N D X:Nat) (k:Int) (hk1 : -9223372036854775808<=k) (hk2:k<=9223372036854775807) (zs:List Int) (w:World) (h:FD S N w D (some zs)) (h0:0<zs.length) (hl:zs.length<=500000000) (hN:N<=90000) (hXS:¬ S X) (hlim:∀ i,S i->i<w.heap.size) (hX:w.cell? ⟨X,0,none⟩=some (.pointer (some ⟨D,0,none⟩))) :
  Calls Tryz.prog 8 #[.pointer (some ⟨X,0,none⟩),.int .i64 k] w fun e w'=>e=.returned (.tuple #[])/\YJ S N D (some zs) w w':=by
 obtain⟨r,HR⟩:=nm_ w.heap.size
 have hXr:X<r:=by rw[<-HR.out];exact Nm.cell_lt hX
 have hls:Calls Tryz.prog 15 #[.pointer (some ⟨D,0,none⟩)] w fun e w'=>∃ b off c,e=.returned (.slice (some ⟨b,off,none⟩) 1 c)/\w'.cell? ⟨b,off,none⟩=some (sV pr)/\r<=b/\b<w'.heap.size/\Below r w w':=(fd_names S N D _ w h hN).mono fun e w' ⟨hb,hh⟩=>by
  rcases hh with ⟨h0,_⟩ | ⟨_,_,b,off,c,rfl,hc,hb1,hb2⟩
  ·cases h0
  ·exact⟨b,off,c,rfl,hc,by rw[<-HR.out];exact hb1,hb2,by rw[<-HR.out];exact hb⟩
 have HXW:Hid (∀ W,Below r w W->W.cell? ⟨X,0,none⟩=some (.pointer (some ⟨D,0,none⟩))):=fun W hW=>(hW.cell (p:=⟨X,0,none⟩) hXr).trans hX
 have HAX:Hid (∀ W W',Below r w W->Al S W W'->W'.cell? ⟨X,0,none⟩=some (.pointer (some ⟨D,0,none⟩))):=fun W W' h1 h2=>by
  rw[World.cell?_of_block (a:=⟨X,0,none⟩) (h2.blk X (by have:=h1.size;have:=HR.out;omega) hXS)]
  exact HXW.out W h1
 have HLIM:Hid (∀ i,S i->i<r):=hid (by rw[<-HR.out];exact hlim)
 have HRM:Hid (∀ W,Below r w W->Calls Tryz.prog 16 #[.pointer (some ⟨D,0,none⟩),sV pr] W fun e w'=>e=.returned .nilIface/\YJ S N D (some zs) w w'/\Al S W w'):=fun W hW=>by
  have hW':Below w.heap.size w W:=by rw[HR.out];exact hW
  refine(fd_remove S N D zs W (h.below hW') hN).mono ?_
  rintro e w' ⟨rfl,k1,k2⟩
  refine⟨rfl,⟨none,k1.mono (fun i hi=>?_) (Nat.le_refl _),fun z hz=>(by cases hz),(Al.below hW').trans k2 (fun i hi=>.inl hi)⟩,k2⟩
  rcases hi with hi | hi
  ·exact .inl hi
  ·exact .inr ⟨by have:=hW'.size;omega,hi.2⟩
 have HFP:Hid (∀ W (q:Nat),q<18446744073709551616->Below r w W->Calls Tryz.prog 17 #[.pointer (some ⟨D,0,none⟩),sV pr,.int .u64 q] W fun e w'=>e=.returned (.tuple #[])/\YJ S N D (some zs) w w'/\Al S W w'):=fun W q hq hW=>by
  have hW':Below w.heap.size w W:=by rw[HR.out];exact hW
  refine(flip_any S N D zs q hq W (h.below hW') hl h0).mono ?_
  rintro e w' ⟨rfl,⟨zs',hz,k1⟩,k2⟩
  exact⟨rfl,⟨some zs',k1.mono (fun i hi=>.inl hi) (by omega),fun z hz'=>⟨zs,rfl,by cases hz';exact hz⟩,(Al.below hW').trans k2 (fun i hi=>.inl hi)⟩,k2⟩
 clear h hlim
 go_enter Tryz.func8,Tryz.ntmps8
 go_wp2_with (go_at_call 15;refine hls.mono ?_;rintro e w1 ⟨b,off,c,rfl,hc1,hb1,hb2,hbw⟩;have HC1:=hid hc1;have HBW:=hid hbw;clear hc1 hbw hls)
 have HEN:Hid (∀ W',Al S w1.drew W'->W'.cell? ⟨b,off,none⟩=some (sV pr)):=fun W' h2=>by
  rw[World.cell?_of_block (a:=⟨b,off,none⟩) (h2.blk b hb2 (fun hs=>by have:=HLIM.out b hs;omega))]
  exact HC1.out
 go_loopg [5] 1 (fun q iv wr=>(iv=.int .i64 0/\q=1/\wr=w1) ∨ (iv=.int .i64 1/\q=0/\Hid (YJ S N D (some zs) w wr)))
 case atStart=>exact .inl ⟨rfl,rfl,rfl⟩
 case round =>
  rcases hrel with ⟨rfl,hq,hww⟩ | ⟨rfl,hq,HSP⟩
  ·have hww':=hww.symm
   subst hww'
   have hd0:Below r w w1.drew:=HBW.out.trans ((zv _ _ 1).mono (by have:=HBW.out.size;have:=HR.out;omega))
   have hS0:Qr X D b off w1.drew:=⟨HXW.out _ hd0,HC1.out⟩
   have hXd:w1.drew.cell? ⟨X,0,none⟩=some (.pointer (some ⟨D,0,none⟩)):=hS0.c0
   by_cases hand:bits BinOp.and IntKind.i64 k 1=0
   ·go_wp2
    refine wp_region_held_drew (S:=Qr X D b off) (by kernel_rfl) hS0 (fun hHeld=>?_)
    generalize w1.drew=u0 at hHeld hS0 hd0 HEN hXd ⊢
    iterate 8
     refine qq (v:=?_) hHeld ?_ ?_
     rotate_left
     ·rintro w' ⟨c0,c1⟩;unfold sV at c1;go_simp;rfl
     try simp only[Act.put,sL]
    refine vv 8 16 [.tmp 23,.tmp 27] [.pointer (some ⟨D,0,none⟩),sV pr] (HRM.out u0 hd0) ?_
    rintro e u2 ⟨rfl,hsp,hal⟩
    refine⟨_,rfl,⟨HAX.out u0 u2 hd0 hal,HEN.out u2 hal⟩,fun hHeld=>?_⟩
    try simp only[Act.put,sL]
    refine wpAnyH_done (by kernel_rfl) ?_ _
    have HSP:=hid hsp
    clear hHeld hsp hal
    go_wp2
    go_roundg 0
    case measure=>omega
    case rel=>exact .inr ⟨by go_num,rfl,HSP⟩
   ·go_wp2
    refine wp_region_held_drew (S:=Qr X D b off) (by kernel_rfl) hS0 (fun hHeld=>?_)
    generalize w1.drew=u0 at hHeld hS0 hd0 HEN hXd ⊢
    iterate 10
     refine qq (v:=?_) hHeld ?_ ?_
     rotate_left
     ·rintro w' ⟨c0,c1⟩;unfold sV at c1;go_simp;rfl
     try simp only[Act.put,sL]
    obtain⟨q,hq1,hq2⟩:∃ q:Nat,(k % 18446744073709551616) / 2=(q:Int)/\q<18446744073709551616:=⟨((k % 18446744073709551616) / 2).toNat,by omega,by omega⟩
    refine takeY (i:=10) (v:=.int .u64 (q:Int)) hHeld ?_ ?_
    ·rintro w' ⟨c0,c1⟩;go_simp
     rw[<-hq1]
     have:IntKind.u64.wrap k=k % 18446744073709551616:=by simp[IntKind.wrap,IntKind.bits,IntKind.signed]
     rw[this]
    try simp only[Act.put,sL]
    refine vv 11 17 [.tmp 32,.tmp 36,.tmp 39] [.pointer (some ⟨D,0,none⟩),sV pr,.int .u64 (q:Int)] (HFP.out u0 q hq2 hd0) ?_
    rintro e u2 ⟨rfl,hsp,hal⟩
    refine⟨_,rfl,⟨HAX.out u0 u2 hd0 hal,HEN.out u2 hal⟩,fun hHeld=>?_⟩
    try simp only[Act.put,sL]
    refine wpAnyH_done (by kernel_rfl) ?_ _
    have HSP:=hid hsp
    clear hHeld hsp hal
    go_wp2
    go_roundg 0
    case measure=>omega
    case rel=>exact .inr ⟨by go_num,rfl,HSP⟩
  ·go_wp2
   exact bodyPost_end (results_none Tryz.results8 _ _ _) rfl ⟨rfl,HSP.out⟩
def nD (w:World) (i:Nat):Prop := ∀ c T f,w.heap[i]? = some (.cells c T f)->T ≠ 31/\T ≠ 88/\T ≠ 141/\T ≠ 34
theorem nD_of {w:World} {i:Nat} {c:Array Value} {T:TypeId} {f:Nat × Nat} (h:w.heap[i]? = some (.cells c T f)) (hT:T ≠ 31/\T ≠ 88/\T ≠ 141/\T ≠ 34):nD w i:=fun c' T' f' h'=>by
 rw[h] at h'
 cases h'
 exact hT
theorem nD_map {w:World} {i:Nat} {es:Array MapEntry} {ck:Nat} (h:w.heap[i]? = some (.map es ck)):nD w i:=fun c' T' f' h'=>by
 rw[h] at h'
 cases h'
theorem nD_own {w:World} {B e k n:Nat} {v:Value} {xs:List Value} (h:w.ownsRow B e k v n xs) (he:e ≠ 31/\e ≠ 88/\e ≠ 141/\e ≠ 34) {i:Nat} (hi:v.ownBlock=some i):nD w i:=by
 obtain⟨_,⟨rfl,rfl⟩ | ⟨g,cap,cur,rfl,_,hh,_⟩⟩:=h
 ·cases hi
 ·simp only[Value.ownBlock,Option.some.injEq] at hi
  subst hi
  exact nD_of hh he
theorem FD.typed {S:Nat->Prop} {N D:Nat} {w:World} {o:Option (List Int)} (h:FD S N w D o):FD (fun i=>S i/\nD w i) N w D o:=by
 obtain⟨F,⟨g,gs,mv,n,ns,Ms,ls,k⟩,h2⟩:=h
 refine⟨F,⟨g,gs,mv,n,ns,Ms,ls,k.box,k.now,k.safe,k.ne,⟨fun x f hf=>?_,k.fs.sep⟩,⟨k.mv.row,fun p hp=>?_,fun i hi=>⟨k.mv.own i hi,nD_own k.mv.row (by decide) hi⟩⟩,k.few,⟨k.own.1,?_⟩,⟨k.own.2.1,?_⟩,⟨k.own.2.2,?_⟩⟩,h2⟩
 ·obtain⟨a,b,c,d⟩:=k.fs.nd x f hf
  exact⟨a,b,⟨c,nD_of a.box (by decide)⟩,fun i hi=>⟨d i hi,nD_own a.own (by decide) hi⟩⟩
 ·have q:=k.mv.at_ p hp
  refine⟨q.px,q.few,q.nm,fun a ha=>?_⟩
  obtain⟨h1,cs,f,hc⟩:=q.at_ a ha
  exact⟨⟨h1,nD_of hc (by decide)⟩,cs,f,hc⟩
 ·exact nD_of k.box (by decide)
 ·obtain⟨es,ck,hb⟩:=k.now.box
  exact nD_map hb
 ·obtain⟨es,ck,hb⟩:=k.safe.box
  exact nD_map hb
structure Pz (S XE:Nat->Prop) (N D R:Nat) (w:World) (oz:Option (List Int)) (go:Bool) (t n:Nat) (T:Ts):Prop where
 fd:FD S N w D oz
 rf:Rf w R D t go false
 nS:¬ S R
 lim:∀ i,SrE S R XE i->i<w.heap.size
 tt:Tt (SrE S R XE) w t n T
theorem Pw.z {S XE:Nat->Prop} {N D R:Nat} {w:World} {f:Option Str} {t n:Nat} {T:Ts} (h:Pw S XE N D R w f t n T):Pz S XE N D R w (f.map nm) f.isSome t n T:=⟨h.fd,h.rf,h.nS,h.lim,h.tt⟩
theorem Pz.w {S XE:Nat->Prop} {N D R:Nat} {w:World} {f:Option Str} {t n:Nat} {T:Ts} (h:Pz S XE N D R w (f.map nm) f.isSome t n T):Pw S XE N D R w f t n T:=⟨h.fd,h.rf,h.nS,h.lim,h.tt⟩
theorem Pz.typed {S XE:Nat->Prop} {N D R:Nat} {w:World} {oz:Option (List Int)} {go:Bool} {t n:Nat} {T:Ts} (h:Pz S XE N D R w oz go t n T):Pz (fun i=>S i/\nD w i) XE N D R w oz go t n T :=
 ⟨h.fd.typed,h.rf,fun hh=>h.nS hh.1,fun i hi=>h.lim i (by rcases hi with (hi | hi) | hi;exact .inl (.inl hi.1);exact .inl (.inr hi);exact .inr hi),h.tt.to (fun i hi=>.inl (by rcases hi with (hi | hi) | hi;exact .inl (.inl hi.1);exact .inl (.inr hi);exact .inr hi))⟩
theorem Pz.more {S XE:Nat->Prop} {N D R:Nat} {w W:World} {oz:Option (List Int)} {go:Bool} {t n:Nat} {T:Ts} (h:Pz S XE N D R w oz go t n T) {C:Nat} (hC:w.heap.size<=C) (hb:Below w.heap.size w W) (hCW:C<W.heap.size):Pz S (fun i=>XE i ∨ i=C) N D R W oz go t n T :=
 ⟨h.fd.below hb,⟨(hb.block R (z7 h.rf.box)).trans h.rf.box⟩,h.nS,fun i hi=>(by
  rcases hi with hi | hi | hi
  ·exact Nat.lt_of_lt_of_le (h.lim i (.inl hi)) hb.size
  ·exact Nat.lt_of_lt_of_le (h.lim i (.inr hi)) hb.size
  ·rw[hi];exact hCW),(h.tt.to (S':=SrE S R (fun i=>XE i ∨ i=C)) (fun i hi=>by
  rcases hi with hi | hi | hi
  ·exact .inl (.inl hi)
  ·exact .inl (.inr hi)
  ·rw[hi];exact .inr hC)).below hb⟩
theorem nD_rf {w:World} {R D t:Nat} {go un:Bool} (h:Rf w R D t go un):nD w R:=nD_of h.box (by decide)
theorem own_al {P:Nat->Prop} {w W:World} {B e k n:Nat} {v:Value} {xs:List Value} (h:w.ownsRow B e k v n xs) (ha:Al P w W) (hP:∀ i,v.ownBlock=some i->¬ P i):W.ownsRow B e k v n xs:=by
 obtain⟨hl,h0 | ⟨g,cap,cur,hv,hb,hh,rest⟩⟩:=h
 ·exact⟨hl,.inl h0⟩
 ·exact⟨hl,.inr ⟨g,cap,cur,hv,hb,(ha.blk g (z7 hh) (hP g (by rw[hv];rfl))).trans hh,rest⟩⟩
theorem own_ty {w:World} {B e k n:Nat} {v:Value} {xs:List Value} (h:w.ownsRow B e k v n xs) {i:Nat} (hi:v.ownBlock=some i):∃ cur,w.heap[i]? = some (.cells cur e (0,0)):=by
 obtain⟨_,⟨rfl,rfl⟩ | ⟨g,cap,cur,rfl,_,hh,_⟩⟩:=h
 ·cases hi
 ·simp only[Value.ownBlock,Option.some.injEq] at hi
  subst hi
  exact⟨cur,hh⟩
theorem Dq.alD {G Q:Nat} {w W:World} {v1 v2:Value} {rs:List Rx} {ls:List Ex} (h:Dq G w Q v1 v2 rs ls) {P:Nat->Prop} (ha:Al P w W) (hP:∀ i,P i->nD w i):Dq G W Q v1 v2 rs ls:=by
 refine⟨(ha.blk Q (z7 h.box) (fun hp=>(hP Q hp _ _ _ h.box).1 rfl)).trans h.box,own_al h.r1 ha (fun i hi hp=>?_),own_al h.r2 ha (fun i hi hp=>?_),h.ok1,h.ok2,h.few⟩
 ·obtain⟨cur,hc⟩:=own_ty h.r1 hi
  exact(hP i hp _ _ _ hc).2.1 rfl
 ·obtain⟨cur,hc⟩:=own_ty h.r2 hi
  exact(hP i hp _ _ _ hc).2.2.1 rfl
theorem Dq.low {G Q:Nat} {w:World} {v1 v2:Value} {rs:List Rx} {ls:List Ex} (h:Dq G w Q v1 v2 rs ls):Dq 0 w Q v1 v2 rs ls:=⟨h.box,qk h.r1 (Nat.zero_le _),qk h.r2 (Nat.zero_le _),h.ok1,h.ok2,h.few⟩
theorem uQ {P:Nat->Prop} {b:Nat} {w w':World} (h:Al P w w') (hP:∀ i,P i->b<=i) (hb:b<=w.heap.size):Below b w w':=⟨h.os,h.tape,h.output,h.size,fun i hi=>h.blk i (by omega) (fun hp=>by have:=hP i hp;omega)⟩
theorem tf_al {C:Nat} {w w':World} {c:Array Value} {T:TypeId} {f:Nat × Nat} (h:Al (fun i=>i=C) w w') (hc:w.heap[C]? = some (.cells c T f)):Tf T w w':=fun i o h1 h2 h3=>by
 by_cases e:i=C
 ·subst e
  rw[hc] at h1
  cases h1
  exact absurd rfl (h2 _ _)
 ·exact(h.blk i (z7 h1) e).trans h1
theorem Pw.doc {S XE:Nat->Prop} {N D R:Nat} {w w':World} {f:Option Str} {t n:Nat} {T:Ts} (h:Pw S XE N D R w f t n T) {C:Nat} (hX:XE C) {c:Array Value} (hc:w.heap[C]? = some (.cells c 31 (0,0))) (ha:Al (fun i=>i=C) w w'):Pw S XE N D R w' f t n T:=by
 have hRC:R ≠ C:=fun e=>by
  have:=h.rf.box
  rw[e,hc] at this
  cases this
 exact⟨h.fd.tf (tf_al ha hc) ha.size (by decide),⟨(ha.blk R (z7 h.rf.box) hRC).trans h.rf.box⟩,h.nS,fun i hi=>Nat.lt_of_lt_of_le (h.lim i hi) ha.size,h.tt.al (ha.mono (fun i hi=>.inr (hi ▸ hX)))⟩
structure Gs (b0 k:Nat) (S XE:Nat->Prop) (N D R t n:Nat) (T:Ts) (o:Option (List (List Sp))) (Q:Nat) (rs:List Rx) (ls:List Ex) (w:World):Prop where
 pw:Pw S XE N D R w (Option.map fB o) t n T
 dq:∃ v1 v2,Dq 0 w Q v1 v2 rs ls
 iv:Iv k (aT T) rs ls
 fl:FlO k (aT T) o
 n1:n<=201*k
 n2:N<=10*k+10
 lo:(∀ i,S i->b0<=i)/\b0<=R/\b0<=Q
 sz:b0<=w.heap.size
theorem Gs.below {b0 k:Nat} {S XE:Nat->Prop} {N D R t n:Nat} {T:Ts} {o:Option (List (List Sp))} {Q:Nat} {rs:List Rx} {ls:List Ex} {w W:World} (h:Gs b0 k S XE N D R t n T o Q rs ls w) (hb:Below w.heap.size w W):Gs b0 k S XE N D R t n T o Q rs ls W:=by
 obtain⟨v1,v2,hd⟩:=h.dq
 exact⟨h.pw.below hb,⟨v1,v2,hd.below hb⟩,h.iv,h.fl,h.n1,h.n2,h.lo,Nat.le_trans h.sz hb.size⟩
def uY (w0:World) (X k D R:Nat) (w:World) (e:Ending) (w':World):Prop := ∃ kk C S' XE' N' t' n' T' o' rs' ls',e=.returned (.tuple #[.int .i64 kk,.pointer (some ⟨C,0,none⟩),.int .i64 kk])/\Gs w0.heap.size (k+1) S' XE' N' D R t' n' T' o' C rs' ls' w'/\XE' X/\w'.heap[X]? = w.heap[X]?/\Below w0.heap.size w0 w'
structure Gb (w:World):Prop where
 tab:Tab w
 ers:Ers w
 mx:Mx w
 db:Db w
 ec:Ec w
 c0:C00 w
theorem Gb.below {w W:World} (h:Gb w) (hb:Below w.heap.size w W):Gb W:=⟨h.tab.below hb,h.ers.below hb,h.mx.below hb,h.db.below hb,h.ec.below hb,h.c0.below hb⟩
theorem fin_do {w0:World} {X k:Nat} {S XE:Nat->Prop} {N D R:Nat} {oz:Option (List Int)} {go:Bool} {t n:Nat} {T:Ts} {w win w4 w6 w7 w8:World} {C:Nat} {cX:Array Value} {e4:Ending} {kk:Int} {rs':List Rx} {ls':List Ex}
  (hb0:Below w0.heap.size w0 w) (hz:Pz (fun i=>S i/\nD w i) XE N D R w oz go t n T) (hlo:(∀ i,S i->w0.heap.size<=i)/\w0.heap.size<=R) (hN:N<=10*k+16) (hX:w.heap[X]? = some (.cells cX 34 (0,0))) (hXE:XE X)
  (hC:w.heap.size<=C) (hin:Below w.heap.size w win) (hCW:C<win.heap.size) (ha:After (fun i=>S i/\nD w i) (fun i=>XE i ∨ i=C) N D R k kk rs' ls' win e4 w4)
  (h6:Below w4.heap.size w4 w6) {cC:Array Value} (hcC:w6.heap[C]? = some (.cells cC 31 (0,0))) (h7:Al (fun i=>i=C) w6 w7) (hd:∃ v1 v2,Dq 0 w7 C v1 v2 rs' ls') (h8:Below w7.heap.size w7 w8) :
  uY w0 X k D R w (.returned (.tuple #[.int .i64 kk,.pointer (some ⟨C,0,none⟩),.int .i64 kk])) w8:=by
 obtain⟨_,S',N',t',n',T',o',hp,hiv,hfl,_,hn',hN',hgr⟩:=ha
 have hs0:=hb0.size
 have hp7:=(hp.below h6).doc (C:=C) (.inr rfl) hcC h7
 have hXlt:=z7 hX
 have hRb:=hz.rf.box
 have hXR:X ≠ R:=fun e=>by
  rw[e,hRb] at hX
  cases hX
 have hXin:win.heap[X]? = some (.cells cX 34 (0,0)):=(hin.block X hXlt).trans hX
 have hX4:w4.heap[X]? = some (.cells cX 34 (0,0)):=(hgr.al.blk X (z7 hXin) (fun hh=>by
  rcases hh with hh | hh
  ·exact(hh.2 _ _ _ hX).2.2.2 rfl
  ·exact hXR hh)).trans hXin
 have hX6:=(h6.block X (z7 hX4)).trans hX4
 have hX7:=(h7.blk X (z7 hX6) (by omega)).trans hX6
 have hX8:=(h8.block X (z7 hX7)).trans hX7
 have b1:Below w0.heap.size w0 win:=hb0.trans (hin.mono hs0)
 have b4:Below w0.heap.size w0 w4:=b1.trans (uQ hgr.al (fun i hi=>by
  rcases hi with hi | hi
  ·exact hlo.1 i hi.1
  ·rw[hi];exact hlo.2) b1.size)
 have b6:=b4.trans (h6.mono b4.size)
 have b7:Below w0.heap.size w0 w7:=b6.trans (uQ h7 (fun i hi=>by rw[hi];omega) b6.size)
 have b8:=b7.trans (h8.mono b7.size)
 obtain⟨v1,v2,hd⟩:=hd
 refine⟨kk,C,S',_,N',t',n',T',o',rs',ls',rfl,⟨hp7.below h8,⟨v1,v2,hd.below h8⟩,hiv,hfl,hn',by omega,⟨fun i hi=>?_,hlo.2,by omega⟩,b8.size⟩,.inl hXE,by rw[hX8,hX],b8⟩
 rcases hgr.new i hi with hi | hi
 ·exact hlo.1 i hi.1
 ·have:=b1.size
  omega
set_option maxHeartbeats 2000000 in
theorem link_all (S XE:Nat->Prop) (N D R:Nat) (w:World) (f:Option Str) (t n:Nat) (T:Ts) (x y:Str) (h:Pw S XE N D R w f t n T) (hN:N<=70000) (hn:n<=70000) (hfl:∀ f0,f=some f0->f0.length<=200000000) (hF:isN x=true->isN y=true->x ≠ y->∀ T',aT T'=stF (aT T) [lkS x y]->Few T') (ha:∀ z,(aT T z).isSome=true->∀ b ∈ z,b<128) (ht:Tab w) (hdb:Db w) (hmx:Mx w) :
  Calls Tryz.prog 23 #[.pointer (some ⟨R,0,none⟩),sV x,sV y] w (jx S XE N D R f n T x y w):=by
 obtain⟨r,HR⟩:=nm_ w.heap.size
 have hi1:=yK x w hmx
 have hi2:=fun W (hW:Below r w W)=>yK y W (hmx.below (by rw[HR.out];exact hW))
 rw[HR.out] at hi1
 by_cases hx:isN x=true
 ·rw[hx] at hi1
  by_cases hy:isN y=true
  ·rw[hy] at hi2
   by_cases hxy:x=y
   ·subst hxy
    have HE:Hid (∀ W,Below r w W->jx S XE N D R f n T x x w (.returned (.iface 44 (.int .i64 64))) W):=fun W hW=>.inr ⟨⟨hx,hx⟩,.inl ⟨rfl,rfl,by rw[HR.out];exact hW⟩⟩
    unfold sV at hi1 hi2 ⊢
    clear h hF ha
    go_enter Tryz.func23,Tryz.ntmps23
    go_wp2_with (first
     | (go_at_call 58;refine hi1.mono ?_;rintro e w1 ⟨rfl,hb⟩;have B1:=hid hb;have hi3:=hi2 w1 hb;clear hb hi1 hi2)
     | (go_at_call 58;refine hi3.mono ?_;rintro e w2 ⟨rfl,hb⟩;have B2:Hid (Below r w w2):=hid (B1.out.trans (hb.mono (by have:=B1.out.size;have:=HR.out;omega)));clear hb hi3))
    exact bodyPost_ret (results_tmp Tryz.results23 _ _ _) rfl (HE.out _ B2.out)
   ·exact link_any S XE N D R w f t n T x y h hN hn hfl (hF hx hy hxy) ha ht hdb hmx
  ·have hy':isN y=false:=by simpa using hy
   rw[hy'] at hi2
   have HE:Hid (∀ W,Below r w W->jx S XE N D R f n T x y w (.returned (.iface 44 (.int .i64 60))) W):=fun W hW=>.inl ⟨fun hh=>hy hh.2,rfl,by rw[HR.out];exact hW⟩
   unfold sV at hi1 hi2 ⊢
   clear h hF ha
   go_enter Tryz.func23,Tryz.ntmps23
   go_wp2_with (first
    | (go_at_call 58;refine hi1.mono ?_;rintro e w1 ⟨rfl,hb⟩;have B1:=hid hb;have hi3:=hi2 w1 hb;clear hb hi1 hi2)
    | (go_at_call 58;refine hi3.mono ?_;rintro e w2 ⟨rfl,hb⟩;have B2:Hid (Below r w w2):=hid (B1.out.trans (hb.mono (by have:=B1.out.size;have:=HR.out;omega)));clear hb hi3))
   exact bodyPost_ret (results_tmp Tryz.results23 _ _ _) rfl (HE.out _ B2.out)
 ·have hx':isN x=false:=by simpa using hx
  rw[hx'] at hi1
  have HE:Hid (∀ W,Below r w W->jx S XE N D R f n T x y w (.returned (.iface 44 (.int .i64 60))) W):=fun W hW=>.inl ⟨fun hh=>hx hh.1,rfl,by rw[HR.out];exact hW⟩
  unfold sV at hi1 ⊢
  clear h hF ha hi2
  go_enter Tryz.func23,Tryz.ntmps23
  go_wp2_with (go_at_call 58;refine hi1.mono ?_;rintro e w1 ⟨rfl,hb⟩;have B1:=hid hb;clear hb hi1)
  exact bodyPost_ret (results_tmp Tryz.results23 _ _ _) rfl (HE.out _ B1.out)
end Go.Proofs.YtgliaiemkfopeaaGreatDoor.K
