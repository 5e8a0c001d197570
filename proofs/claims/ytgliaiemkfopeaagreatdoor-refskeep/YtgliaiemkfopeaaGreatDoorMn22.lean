import Derived.Test.YtgliaiemkfopeaaGreatDoorMn21
import Derived.Test.YtgliaiemkfopeaaGreatDoorMn20
set_option linter.unusedSimpArgs false
set_option linter.unusedVariables false
set_option maxRecDepth 20000
set_option maxHeartbeats 4000000
namespace Go.Proofs.YtgliaiemkfopeaaGreatDoor.K
open Go.RowKit
theorem Tryz.results69:Tryz.f69.results=#[.tmp 2,.tmp 3,.tmp 4]:=by kernel_rfl
def fB (bs:List (List Sp)):Str:=bs.flatMap fun ss=>bkS (wrL ss)
theorem Y4:∀ (m:Rk.Tb Str Kp Le) (l r:List Sp),StG m (l++r) ↔ StG m l/\StG (stF m l) r
 | m,[],r=>by simp[StG,stF]
 | m,s :: l,r=>by
  have:=Y4 (Rk.tk m (sP s)) l r
  simp only[List.cons_append,StG,this,stF,List.map_cons,List.foldl_cons]
  constructor
  ·rintro⟨a,b,c,d⟩;exact⟨⟨a,b,c⟩,d⟩
  ·rintro⟨⟨a,b,c⟩,d⟩;exact⟨a,b,c,d⟩
theorem stF_app (m:Rk.Tb Str Kp Le) (l r:List Sp):stF m (l++r)=stF (stF m l) r:=by simp[stF]
def noT:Rk.Tb Str Kp Le:=fun _=>none
def Ec (w:World):Prop := ∃ te pe,w.cell? ⟨1,0,none⟩=some (.iface te pe)
theorem Ec.below {w w':World} (h:Ec w) (hb:Below w.heap.size w w'):Ec w':=by
 obtain⟨te,pe,h⟩:=h
 exact⟨te,pe,(hb.cell (p:=⟨1,0,none⟩) (Nm.cell_lt h)).trans h⟩
structure Can (m:Rk.Tb Str Kp Le):Prop where
 at_:∀ x k l,m x=some (k,l)->(∀ b ∈ x,b<128)/\(k.2=[]->k.1 ≠ zQ)
 cl:¬ clA fun x=>(m x).isSome
theorem canM (S:Nat->Prop) (t n:Nat) (T:Ts) (w:World) (h:Tt S w t n T) (hc:Can (aT T)):Calls Tryz.prog 106 #[.map (some t)] w fun e w'=>e=.returned (.bool true)/\Below w.heap.size w w':=by
 have hx:∀ x r,T x=some r->aT T x=some ((r.id,r.tg),r.log):=fun x r hr=>by unfold aT;rw[hr];rfl
 refine canBe_ok S t n T w h (fun x r hr=>(hc.at_ x _ _ (hx x r hr)).1) (fun x r hr=>(hc.at_ x _ _ (hx x r hr)).2) ?_
 have:(fun x=>(aT T x).isSome)=dT T:=by funext x;unfold aT dT;cases T x <;> rfl
 rw[<-this]
 exact hc.cl
theorem To.none {S:Nat->Prop} {w:World} (hS:∀ i,S i->i<w.heap.size):To S w.heap.size (w.alloc (.map #[] 0)) w.heap.size 0 (fun _=>none) :=
 ⟨⟨YV _ w,fun x r hr=>(by cases hr),fun hs=>(by have:=hS _ hs;omega)⟩,fun x r hr=>(by cases hr),fun x y r q hx=>(by cases hx),Nat.le_refl _,hS⟩
theorem exec_mkm {P:Program} {o:Oper} {a:Act} {w w':World} {t:TypeId} {v:Value} (ho:o.op=.makeMap t none) (hr:(Instr.makeMap t none).run P w=.ok v w'):(execOp a.eval o).run P w=.ok (.value v) w':=by
 unfold execOp
 simp[ho,hr,Result.andThen]
def Post69 (S:Nat->Prop) (n:Nat) (m:Rk.Tb Str Kp Le) (w:World) (e:Ending) (w':World):Prop := ∃ t T,e=.returned (.tuple #[.map (some t),.bool true,.nilIface])/\To S w.heap.size w' t n T/\aT T=m/\Below w.heap.size w w'
theorem adX_block {a:Option Addr} {c j:Nat} {p:Addr} (h:adX 1 a c j=some p):∃ q:Addr,a=some q/\p.block=q.block:=by
 unfold adX at h
 split at h
 ·exact⟨p,h,rfl⟩
 ·cases a with
  | none=>cases h
  | some q=>simp only[Option.map_some,Option.some.injEq] at h;subst h;exact⟨q,rfl,by rcases q with ⟨b,o,f⟩;cases f <;> simp[Addr.add] <;> split <;> rfl⟩
set_option maxHeartbeats 2000000 in
theorem readBlocks_any (S:Nat->Prop) (a:Option Addr) (c:Nat) (bs:List (List Sp)) (w:World) (hS:∀ i,S i->i<w.heap.size) (hP:PB w a c (fB bs)) (hpa:∀ p:Addr,a=some p->p.block<w.heap.size) (hne:bs ≠ []) (hok:∀ ss ∈ bs,∀ s ∈ ss,StC s) (hg:StG noT (bs.flatten.map cnS)) (hn:bs.flatten.length<=70000) (hl:(fB bs).length<=250000000) (hcan:Can (stF noT (bs.flatten.map cnS))) (ht:Tab w) (her:Ers w) (hmx:Mx w) (hdb:Db w) (hec:Ec w) :
  Calls Tryz.prog 69 #[.slice a (fB bs).length c] w (Post69 S bs.flatten.length (stF noT (bs.flatten.map cnS)) w):=by
 obtain⟨G,HG⟩:=nm_ w.heap.size
 have HT0:Hid (To S G (w.alloc (.map #[] 0)) G 0 (fun _=>none)):=hid (by rw[<-HG.out];exact To.none hS)
 obtain⟨W1,HW1⟩:=nm_ (w.alloc (.map #[] 0))
 rw[HW1.out] at HT0
 have hb1:Below G w W1:=by rw[<-HW1.out,<-HG.out];exact(Below.refl _ w).alloc (Nat.le_refl _) _
 have hmk:(Instr.makeMap 105 none).run Tryz.prog w=.ok (.map (some w.heap.size)) (w.alloc (.map #[] 0)):=by kernel_rfl
 rw[HW1.out,HG.out] at hmk
 have HGL:Hid (∀ W,Below G w W->Tab W/\Ers W/\Mx W/\Db W/\Ec W):=fun W hW=>by
  have hW':Below w.heap.size w W:=by rw[HG.out];exact hW
  exact⟨ht.below hW',her.below hW',hmx.below hW',hdb.below hW',hec.below hW'⟩
 have HA0:Hid (aT (fun _=>none)=noT):=hid rfl
 -- one block,wherever the table stands
 have HTB:Hid (∀ (k:Nat) (W:World) (Ti:Ts) (a':Option Addr) (c':Nat),k<bs.length->Below G w W->To S G W G ((bs.take k).flatten.length) Ti->aT Ti=stF noT ((bs.take k).flatten.map cnS)->PB w a' c' (fB (bs.drop k))->(∀ p:Addr,a'=some p->p.block<G)->Calls Tryz.prog 105 #[.map (some G),.slice a' (fB (bs.drop k)).length c'] W fun e W'=>∃ (Tj:Ts) (a2:Option Addr) (c2:Nat),e=.returned (.tuple #[.slice a2 (fB (bs.drop (k+1))).length c2,.nilIface])/\Below G w W'/\To S G W' G ((bs.take (k+1)).flatten.length) Tj/\aT Tj=stF noT ((bs.take (k+1)).flatten.map cnS)/\PB w a2 c2 (fB (bs.drop (k+1)))/\(∀ p:Addr,a2=some p->p.block<G)):=fun k W Ti a' c' hk hW hTi hAi hPk hpk=>by
  obtain⟨ss,hss⟩:∃ ss,bs.getD k []=ss:=⟨_,rfl⟩
  have hmem:ss ∈ bs:=by rw[<-hss];exact zK bs k [] hk
  have hdr:bs.drop k=ss :: bs.drop (k+1):=by
   rw[List.drop_eq_getElem_cons hk,<-hss,List.getD_eq_getElem?_getD,List.getElem?_eq_getElem hk]
   rfl
  have htk:bs.take (k+1)=bs.take k++[ss]:=by rw[qj [] bs k hk,hss]
  have hfl:(bs.take (k+1)).flatten=(bs.take k).flatten++ss:=by rw[htk];simp
  have hfb:fB (bs.drop k)=bkS (wrL ss)++fB (bs.drop (k+1)):=by rw[hdr];simp[fB]
  have hall:bs.flatten=(bs.take k).flatten++(ss++(bs.drop (k+1)).flatten):=by
   conv=>lhs;rw[<-List.take_append_drop k bs,hdr]
   simp
  have hlen:(fB (bs.drop k)).length<=(fB bs).length:=by
   conv=>rhs;rw[<-List.take_append_drop k bs]
   unfold fB
   rw[List.flatMap_append,List.length_append]
   omega
  have hbl:105+(wrL ss).length+(fB (bs.drop (k+1))).length=(fB (bs.drop k)).length:=by
   have hle:(wrL ss).length<=(bkS (wrL ss)).length:=by unfold bkS;rw[List.length_append];omega
   have h1:(bkS (wrL ss)).length+(fB (bs.drop (k+1))).length=(fB (bs.drop k)).length:=by rw[hfb,List.length_append]
   have h2:(bkS (wrL ss)).length=105+(wrL ss).length:=by unfold bkS;rw[List.length_append,uZ _ (by omega)]
   omega
  have hgk:StG (aT Ti) (ss.map cnS):=by
   rw[hAi]
   have:=hg
   rw[hall,List.map_append,Y4,List.map_append,Y4] at this
   exact this.2.1
  have hnk:(bs.take k).flatten.length+ss.length<=80000:=by
   have:=congrArg List.length hall
   simp only[List.length_append] at this
   omega
  have hPW:PB W a' c' (bkS (wrL ss)++fB (bs.drop (k+1))):=by
   rw[<-hfb]
   exact hPk.tf (fun q hq=>hW.block _ (hpk q hq)) hW.size
  have:=takeBlock_any S G G _ Ti a' c' ss (fB (bs.drop (k+1))) W hTi hPW (fun p hp=>by have:=hpk p hp;have:=hW.size;have:=HG.out;omega) (hok ss hmem) hgk hnk (by omega) (by omega) (HGL.out W hW).1 (HGL.out W hW).2.1 (HGL.out W hW).2.2.1 (HGL.out W hW).2.2.2.1
  rw[<-hfb] at this
  refine this.mono ?_
  rintro e W' ⟨Tj,rfl,h1,h2,h3⟩
  refine⟨Tj,_,_,rfl,hW.trans h3.b,by rw[hfl,List.length_append];exact h1,by rw[h2,hAi,hfl,List.map_append,stF_app],?_,fun p hp=>?_⟩
  ·have hf:=hPk.from (105+(wrL ss).length) (by omega)
   rw[hfb,List.drop_append_of_le_length (by unfold bkS;rw[List.length_append,uZ _ (by omega)];omega),List.drop_of_length_le (by unfold bkS;rw[List.length_append,uZ _ (by omega)];omega),List.nil_append] at hf
   exact hf
  ·obtain⟨q,hq,e⟩:=adX_block hp
   rw[e]
   exact hpk q hq
 obtain⟨N,HN⟩:=nm_ bs.length
 have hN0:0<N:=by rw[<-HN.out];exact List.length_pos_iff.2 hne
 have hfirst:=HTB.out 0 W1 (fun _=>none) a c (by rw[HN.out];exact hN0) hb1 HT0.out HA0.out hP (fun p hp=>by rw[<-HG.out];exact hpa p hp)
 have HCAN:=hid hcan
 have HLEN:Hid (∀ k,(fB (bs.drop k)).length<=250000000):=fun k=>by
  refine Nat.le_trans ?_ hl
  conv=>rhs;rw[<-List.take_append_drop k bs]
  unfold fB
  rw[List.flatMap_append,List.length_append]
  omega
 have HPOS:Hid (∀ k,k<N->0<(fB (bs.drop k)).length):=fun k hk=>by
  have hk':k<bs.length:=by rw[HN.out];exact hk
  rw[List.drop_eq_getElem_cons hk']
  unfold fB
  rw[List.flatMap_cons,List.length_append]
  have:0<(bkS (wrL bs[k])).length:=by unfold bkS hdS slS;simp;omega
  omega
 simp only[List.drop_zero,Nat.zero_add] at hfirst
 obtain⟨M,hM⟩:∃ M,(fB bs).length=M:=⟨_,rfl⟩
 rw[hM] at hfirst ⊢
 clear hP hpa hok hg hn hl hcan ht her hmx hdb hec hne hM
 go_enter Tryz.func69,Tryz.ntmps69
 go_wp2_with (first
  | (refine z8 rfl _ (exec_mkm rfl hmk) ?_;go_frame)
  | (go_at_call 105;refine hfirst.mono ?_;rintro e w1 ⟨Tj,a2,c2,rfl,q1,q2,q3,q4,q5⟩;have Q1:=hid q1;have Q2:=hid q2;have Q3:=hid q3;have Q4:=hid q4;have Q5:=hid q5;clear q1 q2 q3 q4 q5 hfirst))
 go_loopg [0,4] (N-1) (fun q bv ev wr=>∃ (k:Nat) (Ti:Ts) (a':Option Addr) (c':Nat),bv=.slice a' (fB (bs.drop k)).length c'/\ev=.nilIface/\q=N-k/\k<=N/\Hid (Below G w wr)/\Hid (To S G wr G ((bs.take k).flatten.length) Ti)/\Hid (aT Ti=stF noT ((bs.take k).flatten.map cnS))/\Hid (PB w a' c' (fB (bs.drop k)))/\Hid (∀ p:Addr,a'=some p->p.block<G))
 case atStart=>exact⟨1,Tj,a2,c2,by rw[List.drop_one],rfl,rfl,hN0,Q1,Q2,Q3,Q4,Q5⟩
 case round =>
  obtain⟨k,Ti,a',c',rfl,rfl,hq,hkN,HB,HTI,HAI,HPK,HPA⟩:=hrel
  obtain⟨L,hL⟩:∃ L,(fB (bs.drop k)).length=L:=⟨_,rfl⟩
  have hL9:L<=250000000:=by rw[<-hL];exact HLEN.out k
  by_cases hlt:k<N
  ·have hL0:0<L:=by rw[<-hL];exact HPOS.out k hlt
   have hLi:(0:Int)<(L:Int):=by omega
   have hnx:=HTB.out k wr Ti a' c' (by rw[HN.out];exact hlt) HB.out HTI.out HAI.out HPK.out HPA.out
   rw[hL] at hnx ⊢
   clear hL
   go_wp2_with (go_at_call 105;refine hnx.mono ?_;rintro e w1 ⟨Tj,a2,c2,rfl,q1,q2,q3,q4,q5⟩;have Q1:=hid q1;have Q2:=hid q2;have Q3:=hid q3;have Q4:=hid q4;have Q5:=hid q5;clear q1 q2 q3 q4 q5 hnx)
   go_roundg (N-(k+1))
   case measure=>omega
   case rel=>exact⟨k+1,Tj,a2,c2,rfl,rfl,rfl,by omega,Q1,Q2,Q3,Q4,Q5⟩
  ·obtain rfl:k=N:=by omega
   have hL0:L=0:=by
    rw[<-hL,List.drop_of_length_le (by rw[HN.out];exact Nat.le_refl _)]
    rfl
   subst hL0
   rw[hL]
   obtain⟨te,pe,hec⟩:=(HGL.out wr HB.out).2.2.2.2
   have hin:=is_nil te pe wr
   have HTK:Hid (bs.take k=bs):=hid (List.take_of_length_le (by rw[HN.out];exact Nat.le_refl _))
   have hAF:aT Ti=stF noT (bs.flatten.map cnS):=by rw[HAI.out,HTK.out]
   have hcn:=canM S G _ Ti wr HTI.out.tt (by rw[hAF];exact HCAN.out)
   have HFIN:Hid (∀ w2,Below wr.heap.size wr w2->Post69 S bs.flatten.length (stF noT (bs.flatten.map cnS)) w (.returned (.tuple #[.map (some G),.bool true,.nilIface])) w2):=fun w2 h2=>by
    refine⟨G,Ti,rfl,?_,hAF,?_⟩
    ·have:=HTI.out.below h2
     rw[HTK.out] at this
     rw[HG.out]
     exact this
    ·rw[HG.out]
     exact HB.out.trans (h2.mono (by have:=HB.out.size;have:=HG.out;omega))
   clear hL hAF
   go_wp2_with (first
    | (go_at_call 66;refine hin.mono ?_;rintro e w' ⟨rfl,hw⟩;have hw':=hw.symm;subst hw';clear hw hin)
    | (go_at_call 106;refine hcn.mono ?_;rintro e w2 ⟨rfl,hb2⟩;have F2:=hid (HFIN.out w2 hb2);clear hb2 hcn))
   exact bodyPost_ret (results_tmp3 Tryz.results69 _ _ _) rfl F2.out
theorem Tryz.results68:Tryz.f68.results=#[.tmp 2]:=by kernel_rfl
theorem Tryz.results104:Tryz.f104.results=#[.tmp 4]:=by kernel_rfl
theorem Tryz.results67:Tryz.f67.results=#[.tmp 4]:=by kernel_rfl
theorem Tryz.results38:Tryz.f38.results=#[.tmp 2]:=by kernel_rfl
theorem Tryz.results12:Tryz.f12.results=#[.tmp 2,.tmp 3]:=by kernel_rfl
theorem foreign_pr (w:World):Calls Tryz.prog 68 #[sV pr] w fun e w'=>e=.returned (.bool false)/\w'=w:=by
 have h1:=Nm.hasSuffix_any pr [46,110,101,119] (by decide) w
 have h2:=Nm.hasPrefix_any pr [114,101,102,115,47] w
 have h3:=Nm.hasPrefix_any pr [108,111,103,115,47] w
 rw[show Lib.hasSuffix pr [46,110,101,119]=false by decide] at h1
 rw[show Lib.hasPrefix pr [114,101,102,115,47]=false by decide] at h2
 rw[show Lib.hasPrefix pr [108,111,103,115,47]=false by decide] at h3
 unfold sV
 unfold pr at h1 h2 h3 ⊢
 go_enter Tryz.func68,Tryz.ntmps68
 go_wp2_with (first
  | (go_at_call 94;refine h1.mono ?_;rintro e w' ⟨rfl,hw⟩;have hw':=hw.symm;subst hw';clear hw h1)
  | (go_at_call 63;refine h2.mono ?_;rintro e w' ⟨rfl,hw⟩;have hw':=hw.symm;subst hw';clear hw h2)
  | (go_at_call 63;refine h3.mono ?_;rintro e w' ⟨rfl,hw⟩;have hw':=hw.symm;subst hw';clear hw h3))
 exact bodyPost_ret (results_tmp Tryz.results68 _ _ _) rfl ⟨rfl,rfl⟩
theorem index_pr (a:Option Addr) (c:Nat) (l:List Str) (w:World) (hP:Px eT 1 [] w a c l) (hl:∀ y ∈ l,y=pr) (h9:l.length<=1000) :
  Calls Tryz.prog 104 #[.slice a l.length c,.func (.func 68) #[] #[]] w fun e w'=>e=.returned (.int .i64 (-1))/\w'=w:=by
 obtain⟨N,HN⟩:=nm_ l.length
 have hf:=foreign_pr w
 have HP:=hid hP
 have HL:=hid hl
 have hN9:N<=1000:=by rw[<-HN.out];exact h9
 rw[HN.out]
 clear hP hl h9
 go_enter Tryz.func104,Tryz.ntmps104
 go_wp2
 go_loopg [8] N (fun q iv wr=>∃ i:Nat,iv=.int .i64 i/\q=N-i/\i<=N/\wr=w)
 case atStart=>exact⟨0,rfl,rfl,Nat.zero_le _,rfl⟩
 case round =>
  obtain⟨i,rfl,hq,hin,hww⟩:=hrel
  have hww':=hww.symm
  subst hww'
  by_cases hlt:i<N
  ·have hlti:(i:Int)<(N:Int):=by omega
   obtain⟨b,off,e1,_,e3⟩:=HP.out.at_ (by rw[HN.out];omega)
   subst e1
   have hc1:w.cell? ⟨b,off+i,none⟩=some (sV pr):=by
    have:=e3 i (by rw[HN.out];exact hlt) 0 _ rfl
    rw[HL.out _ (zK l i [] (by rw[HN.out];exact hlt))] at this
    simpa using this
   unfold sV pr at hc1 hf
   clear e3
   go_wp2_with (go_at_call 68;refine hf.mono ?_;rintro e w' ⟨rfl,hw⟩;have hw':=hw.symm;subst hw';clear hw)
   go_roundg (N-(i+1))
   case measure=>omega
   case rel=>exact⟨i+1,by go_num,rfl,by omega,rfl⟩
  ·have hlti:¬ (i:Int)<(N:Int):=by omega
   go_wp2
   exact bodyPost_ret (results_tmp Tryz.results104 _ _ _) rfl ⟨rfl,rfl⟩
theorem contains_pr (a:Option Addr) (c:Nat) (l:List Str) (w:World) (hP:Px eT 1 [] w a c l) (hl:∀ y ∈ l,y=pr) (h9:l.length<=1000) :
  Calls Tryz.prog 67 #[.slice a l.length c,.func (.func 68) #[] #[]] w fun e w'=>e=.returned (.bool false)/\w'=w:=by
 have h:=index_pr a c l w hP hl h9
 obtain⟨N,HN⟩:=nm_ l.length
 rw[HN.out] at h ⊢
 clear hP hl h9
 go_enter Tryz.func67,Tryz.ntmps67
 go_wp2_with (go_at_call 104;refine h.mono ?_;rintro e w' ⟨rfl,hw⟩;have hw':=hw.symm;subst hw';clear hw)
 exact bodyPost_ret (results_tmp Tryz.results67 _ _ _) rfl ⟨rfl,rfl⟩
theorem fd_list (S:Nat->Prop) (N D:Nat) (o:Option (List Int)) (w:World) (h:FD S N w D o) (hN:N<=90000) :
  Calls Tryz.prog 15 #[.pointer (some ⟨D,0,none⟩)] w fun e w'=>∃ (a:Option Addr) (n c:Nat),e=.returned (.slice a n c)/\Below w.heap.size w w'/\Calls Tryz.prog 67 #[.slice a n c,.func (.func 68) #[] #[]] w' fun e2 w2=>e2=.returned (.bool false)/\w2=w':=by
 obtain⟨F,h1,h2,h3⟩:=h
 refine(list_any S N D F w h1 hN).mono ?_
 rintro e w' ⟨v,ss,rfl,hnd,hm,ho,hb⟩
 have hall:∀ y ∈ ss,y=pr:=fun y hy=>Classical.byContradiction fun e=>(hm y).1 hy (h2 y e)
 have hlen:ss.length<=1:=by
  match ss,hnd,hall with
  | [],_,_=>simp
  | [x],_,_=>simp
  | x :: y :: r,hnd,hall =>
   exfalso
   have e1:=hall x (by simp)
   have e2:=hall y (by simp)
   rw[List.nodup_cons] at hnd
   exact hnd.1 (by rw[e1,e2];simp)
 rw[<-jz] at ho
 obtain⟨a,c,rfl,hP,_⟩:=vV (enc:=eT) (d:=[]) ho (fun _ _=>rfl)
 exact⟨a,_,c,rfl,hb,contains_pr a c ss w' hP hall (by omega)⟩
theorem fd_read (S:Nat->Prop) (N D:Nat) (f:Str) (w:World) (h:FD S N w D (some (nm f))) (hl:f.length<=500000000) :
  Calls Tryz.prog 65 #[.pointer (some ⟨D,0,none⟩),sV pr] w fun e w'=>∃ a c,e=.returned (.tuple #[.slice a f.length c,.nilIface])/\PB w' a c f/\(∀ p:Addr,a=some p->p.block<w'.heap.size)/\Below w.heap.size w w':=by
 obtain⟨F,h1,h2,h3⟩:=h
 cases hF:F pr with
 | none=>rw[hF] at h3;cases h3
 | some fi =>
  rw[hF] at h3
  have hz:fi.zs=nm f:=Option.some.inj h3
  refine(read_any S N D F fi pr w h1 hF (by rw[hz,yX];exact hl)).mono ?_
  rintro e w' ⟨v,rfl,ho,hb⟩
  rw[hz] at ho
  have hB:Bb w w' w.heap.size v f:=⟨hb,by rw[row_eB];exact ho,hb.size⟩
  obtain⟨a,c,rfl,hP,hp⟩:=bb_pb hB
  exact⟨a,c,rfl,hP,fun p hp'=>(hp p hp').2,hb⟩
theorem fd_read0 (S:Nat->Prop) (N D:Nat) (w:World) (h:FD S N w D none) :
  Calls Tryz.prog 65 #[.pointer (some ⟨D,0,none⟩),sV pr] w fun e w'=>∃ b,e=.returned (.tuple #[.slice none 0 0,.iface 171 (.pointer (some ⟨b,0,none⟩))])/\w'.cell? ⟨b,1,none⟩=some (.int .i64 3)/\Below w.heap.size w w':=by
 obtain⟨F,h1,h2,h3⟩:=h
 have hF:F pr=none:=by cases hF:F pr with
  | none=>rfl
  | some f=>rw[hF] at h3;cases h3
 refine(read_none S N D F pr w h1 hF (by decide)).mono ?_
 rintro e w' ⟨rfl,rfl⟩
 exact⟨_,rfl,cell_of_row _ _ 1 _ _ _ (heap_alloc_new w _),(Below.refl _ w).alloc (Nat.le_refl _) _⟩
theorem nw_pr:nw ≠ pr:=by decide
def FW (S:Nat->Prop) (N:Nat) (w:World) (D:Nat) (bs:List Int):Prop := ∃ F f,Dk S N w D (upd F nw (some f))/\f.zs=bs/\∀ y,y ≠ pr->F y=none
theorem fd_write (S:Nat->Prop) (N D:Nat) (o:Option (List Int)) (ab:Option Addr) (cb:Nat) (bs:List Int) (w:World) (h:FD S N w D o) (hlim:∀ i,S i->i<w.heap.size) (hN:N<=80000) (hb:Sl w ab cb bs) (hbS:∀ p:Addr,ab=some p->¬ S p.block/\p.block<w.heap.size) (hl:bs.length<=500000000) (ho:∀ z,o=some z->z.length<=500000000) :
  Calls Tryz.prog 95 #[.pointer (some ⟨D,0,none⟩),sV nw,.slice ab bs.length cb] w fun e w'=>e=.returned .nilIface/\FW (Sx S w w') (N+2) w' D bs/\Al S w w':=by
 obtain⟨F,h1,h2,h3⟩:=h
 refine(write_any S N D F nw pr ab cb bs w h1 (by decide) (h2 nw nw_pr) hN hlim nw_pr (by decide) (fun y hy=>Classical.byContradiction fun e=>hy (h2 y e)) hb hbS hl ?_).mono ?_
 ·unfold fl
  cases hF:F pr with
  | none=>simp
  | some f=>rw[hF] at h3;exact ho _ h3.symm
 ·rintro e w' ⟨rfl,⟨f,hf,k1⟩,k2⟩
  exact⟨rfl,⟨F,f,k1,hf,h2⟩,k2⟩
theorem fd_rename (S:Nat->Prop) (N D:Nat) (bs:List Int) (w:World) (h:FW S N w D bs) (hN:N<=90000) :
  Calls Tryz.prog 97 #[.pointer (some ⟨D,0,none⟩),sV nw,sV pr] w fun e w'=>e=.returned .nilIface/\FD (Sx S w w') (N+2) w' D (some bs)/\Al S w w':=by
 obtain⟨F,f,h1,h2,h3⟩:=h
 refine(rename_any S N D _ f nw pr w h1 (jQ _ _ _) (by decide) nw_pr hN).mono ?_
 rintro e w' ⟨rfl,k1,k2⟩
 refine⟨rfl,⟨_,k1,fun y hy=>?_,?_⟩,k2⟩
 ·by_cases e:y=nw
  ·rw[e,jQ]
  ·rw[uw _ _ _ _ e,uw _ _ _ _ hy,uw _ _ _ _ e];exact h3 y hy
 ·rw[uw _ _ _ _ (Ne.symm nw_pr),jQ];exact congrArg some h2
theorem fd_append (S:Nat->Prop) (N D:Nat) (zs:List Int) (ab:Option Addr) (cb:Nat) (bs:List Int) (w:World) (h:FD S N w D (some zs)) (hb:Sl w ab cb bs) (hl:zs.length+bs.length<=500000000) :
  Calls Tryz.prog 85 #[.pointer (some ⟨D,0,none⟩),sV pr,.slice ab bs.length cb] w fun e w'=>e=.returned .nilIface/\FD (Sx S w w') N w' D (some (zs++bs))/\Al S w w':=by
 obtain⟨F,h1,h2,h3⟩:=h
 cases hF:F pr with
 | none=>rw[hF] at h3;cases h3
 | some f =>
  rw[hF] at h3
  have hz:f.zs=zs:=Option.some.inj h3
  subst hz
  refine(append_any S N D F f pr nw ab cb bs w h1 hF (Ne.symm nw_pr) (by decide) (fun y hy=>.inl (Classical.byContradiction fun e=>hy (h2 y e))) hb hl (by unfold fl;rw[h2 nw nw_pr];simp)).mono ?_
  rintro e w' ⟨rfl,⟨v',k1⟩,k2⟩
  exact⟨rfl,⟨_,k1,fun y hy=>by rw[uw _ _ _ _ hy];exact h2 y hy,by rw[jQ];rfl⟩,k2⟩
theorem Rf.set2 {w:World} {R D t:Nat} {go un:Bool} (h:Rf w R D t go un) (b:Bool):Rf (w.setCell ⟨R,2,none⟩ (.bool b)) R D t b un:=⟨by rw[qy h.box];rfl⟩
set_option maxHeartbeats 2000000 in
theorem anew_any (S:Nat->Prop) (N D R t t' n:Nat) (go:Bool) (o:Option (List Int)) (T:Ts) (w:World) (h:FD S N w D o) (hR:Rf w R D t go false) (hS:¬ S R) (hlim:∀ i,S i->i<w.heap.size) (hN:N<=70000) (hol:∀ z,o=some z->z.length<=500000000)
  (hT:Tt (Sr S R) w t' n T) (hn:n<=100000) (hok:∀ ss,Nms T ss->(∀ s ∈ stN T ss,StL s)/\(wrL (stN T ss)).length<=280000000/\(stN T ss).length<=1000000) (ht:Tab w) (hdb:Db w) :
  Calls Tryz.prog 59 #[.pointer (some ⟨R,0,none⟩),.map (some t')] w fun e w'=>e=.returned .nilIface/\(∃ ss,Nms T ss/\FD (Sx S w w') (N+4) w' D (some (nm (bkS (wrL (stN T ss))))))/\Rf w' R D t' true false/\Al (Sr S R) w w':=by
 obtain⟨r,HR⟩:=nm_ w.heap.size
 have hsa:=ZX R D t go w hR
 have hRr:R<r:=by rw[<-HR.out];exact z7 hR.box
 have HC0:Hid (∀ W,Below r w W->W.cell? ⟨R,0,none⟩=some (.pointer (some ⟨D,0,none⟩))):=fun W hW=>(hW.cell (p:=⟨R,0,none⟩) hRr).trans hR.c.1
 have C96:=fun W (hW:Below r w W)=>steps_any (Sr S R) t' n T W (hT.below (by rw[HR.out];exact hW)) hn (fun ss h1 h2=>by
  have h3:∀ ss',ss'.Perm ss->(stN T ss').length=(stN T ss).length:=fun ss' hp=>by
   unfold stN
   exact(hp.flatMap_right (st1 T)).length_eq
  have hsrt:Nms T (srt ss):=⟨fun x=>by rw[(uk ss).mem_iff];exact h1 x,List.pairwise_mergeSort (fun a b c h1 h2=>by simp only[decide_eq_true_eq] at *;exact List.le_trans h1 h2) (fun a b=>by simp only[Bool.or_eq_true,decide_eq_true_eq];exact List.le_total a b) ss,by rw[(uk ss).nodup_iff];exact h2⟩
  rw[<-h3 _ (uk ss)]
  have:=(hok _ hsrt).2.2
  omega)
 have HL:Hid (∀ W a c ss,Below r w W->Nms T ss->Px zX 68 dS W a c (stN T ss)->Calls Tryz.prog 87 #[.slice a (stN T ss).length c] W fun e w1=>Below W.heap.size W w1/\∃ v,e=.returned v/\Calls Tryz.prog 86 #[v] w1 fun e2 w2=>Below W.heap.size W w2/\∃ g cap,e2=.returned (.slice (some ⟨g,0,none⟩) (bkS (wrL (stN T ss))).length cap)/\PB w2 (some ⟨g,0,none⟩) cap (bkS (wrL (stN T ss)))/\W.heap.size<=g/\g<w2.heap.size):=fun W a c ss hW hs hP=>lay_any a c (stN T ss) W (ht.below (by rw[HR.out];exact hW)) (hdb.below (by rw[HR.out];exact hW)) hP (hok ss hs).1 (hok ss hs).2.1 (hok ss hs).2.2
 have HWR:Hid (∀ W g cap bs,Below r w W->r<=g->g<W.heap.size->PB W (some ⟨g,0,none⟩) cap bs->bs.length<=500000000->Calls Tryz.prog 95 #[.pointer (some ⟨D,0,none⟩),sV nw,.slice (some ⟨g,0,none⟩) bs.length cap] W fun e w'=>e=.returned .nilIface/\FW (Sx S W w') (N+2) w' D (nm bs)/\Al S W w'):=fun W g cap bs hW hg hgl hP hb=>by
  have:=fd_write S N D o (some ⟨g,0,none⟩) cap (nm bs) W (h.below (by rw[HR.out];exact hW)) (fun i hi=>Nat.lt_of_lt_of_le (hlim i hi) (by rw[HR.out] ; exact Nat.le_trans (by rw[<-HR.out];exact Nat.le_refl _) hW.size)) (by omega) (sl_pb hP) (fun p hp=>by cases hp;exact⟨fun hs=>by have h5:g<w.heap.size:=hlim _ hs;have:=HR.out;omega,hgl⟩) (by rw[yX];exact hb) hol
  rw[yX] at this
  exact this
 have HOK:=hid hok
 have HRf:Hid (∀ W,Al S w W->Rf W R D t go false):=fun W hW=>hR.al hW hS
 have HNS:=hid hS
 have HLIM:=hid hlim
 have hc0:=HC0.out w (Below.refl _ _)
 clear h hR hT hok ht hdb hol hlim
 go_enter Tryz.func59,Tryz.ntmps59
 go_wp2_with (go_at_call 84;refine hsa.mono ?_;rintro e w1 ⟨rfl,hw1⟩;have hw1':=hw1.symm;subst hw1';clear hw1 hsa)
 refine wp_region_held_drew (S:=fun W=>W.cell? ⟨R,0,none⟩=some (.pointer (some ⟨D,0,none⟩))) (by kernel_rfl) hc0 (fun hHeld=>?_)
 have hb0:Below r w w.drew:=by rw[<-HR.out];exact zv _ _ 1
 generalize w.drew=u0 at hHeld hb0 ⊢
 iterate 5
  refine qq (v:=?_) hHeld ?_ ?_
  rotate_left
  ·intro w' c0;go_simp;rfl
  try simp only[Act.put,sL]
 refine vv 5 96 [.tmp 16] [.map (some t')] (C96 u0 hb0) ?_
 rintro e u1 ⟨v,ss,rfl,q1,q2,q3,q4⟩
 have hNms:Nms T ss:=⟨q1,q2,q3⟩
 have hGu0:r<=u0.heap.size:=by have:=hb0.size;have:=HR.out;omega
 have hb1:Below r w u1:=hb0.trans (q4.below.mono hGu0)
 have hGu1:r<=u1.heap.size:=by have:=hb1.size;have:=HR.out;omega
 obtain⟨va,vc,hv,hPx,_⟩:=vV (d:=dS) q4.own (fun x hx=>zJ ((HOK.out ss hNms).1 x hx).1)
 subst hv
 refine⟨_,rfl,HC0.out _ hb1,fun hHeld=>?_⟩
 try simp only[Act.put,sL]
 refine vv 6 87 [.tmp 17] [.slice va (stN T ss).length vc] (HL.out u1 va vc ss hb1 hNms hPx) ?_
 rintro e u2 ⟨hb12,v2,rfl,c86⟩
 have hb2:Below r w u2:=hb1.trans (hb12.mono hGu1)
 refine⟨_,rfl,HC0.out _ hb2,fun hHeld=>?_⟩
 try simp only[Act.put,sL]
 refine vv 7 86 [.tmp 18] [v2] c86 ?_
 rintro e u3 ⟨hb13,g,cap,rfl,hpb,hg1,hg2⟩
 have hb3:Below r w u3:=hb1.trans (hb13.mono hGu1)
 refine⟨_,rfl,HC0.out _ hb3,fun hHeld=>?_⟩
 try simp only[Act.put,sL]
 obtain⟨bs,hbs⟩:∃ bs,bkS (wrL (stN T ss))=bs:=⟨_,rfl⟩
 have hbl:bs.length<=500000000:=by
  rw[<-hbs]
  have:=(HOK.out ss hNms).2.1
  unfold bkS
  rw[List.length_append,uZ _ (by omega)]
  omega
 rw[hbs] at hpb
 obtain⟨bl,hbl2⟩:∃ n,bs.length=n:=⟨_,rfl⟩
 have C95:=HWR.out u3 g cap bs hb3 (Nat.le_trans hGu1 hg1) hg2 hpb hbl
 rw[hbs]
 rw[hbl2] at C95 ⊢
 refine vv 8 95 [.tmp 15,.const (.string ⟨#[112,97,99,107,101,100,45,114,101,102,115,46,110,101,119]⟩),.tmp 19] [.pointer (some ⟨D,0,none⟩),sV nw,.slice (some ⟨g,0,none⟩) bl cap] C95 ?_
 rintro e u4 ⟨rfl,hfw,hal⟩
 have hRu3:R<u3.heap.size:=by have:=hb3.size;have:=HR.out;omega
 have hal4:Al S w u4:=(Al.below (by rw[HR.out];exact hb3)).trans hal (fun i hi=>.inl hi)
 have hc4:u4.cell? ⟨R,0,none⟩=some (.pointer (some ⟨D,0,none⟩)):=(HRf.out u4 hal4).c.1
 refine⟨_,rfl,hc4,fun hHeld=>?_⟩
 try simp only[Act.put,sL]
 refine qq (v:=?_) hHeld ?_ ?_
 rotate_left
 ·intro w' c0;go_simp;rfl
 try simp only[Act.put,sL]
 refine wpAnyH_done (by kernel_rfl) ?_ _
 have hS4:¬ Sx S u3 u4 R:=fun hs=>by
  rcases hs with hs | hs
  ·exact HNS.out hs
  ·omega
 have C97:=fd_rename (Sx S u3 u4) (N+2) D (nm bs) u4 hfw (by omega)
 have HFIN:Hid (∀ u5,FD (Sx (Sx S u3 u4) u4 u5) (N+2+2) u5 D (some (nm bs))->Al (Sx S u3 u4) u4 u5->u5.cell? ⟨R,2,none⟩=some (.bool go)/\u5.frozen? ⟨R,2,none⟩=false/\Calls Tryz.prog 88 #[.pointer (some ⟨R,0,none⟩),.map (some t')] (u5.setCell ⟨R,2,none⟩ (.bool true)) fun e w'=>e=.returned .nilIface/\(∃ ss,Nms T ss/\FD (Sx S w w') (N+4) w' D (some (nm (bkS (wrL (stN T ss))))))/\Rf w' R D t' true false/\Al (Sr S R) w w'):=fun u5 k1 k2=>by
  have hal5:Al S w u5:=hal4.trans k2 (fun i hi=>by
   rcases hi with hi | hi
   ·exact .inl hi
   ·have:=hb3.size;exact .inr (by omega))
  have hr5:=HRf.out u5 hal5
  have hs35:u3.heap.size<=u5.heap.size:=Nat.le_trans hal.size k2.size
  have hnS:¬ Sx (Sx S u3 u4) u4 u5 R:=fun hs=>by
   rcases hs with hs | hs
   ·exact hS4 hs
   ·have:=hal.size;omega
  have hsz:(u5.setCell ⟨R,2,none⟩ (.bool true)).heap.size=u5.heap.size:=by simp[World.setCell]
  refine⟨hr5.c.2.2.1,hr5.c.2.2.2.2 2,(tell_any _ (N+2+2) R D t t' true false _ _ (k1.tf (Tf.set (p:=⟨R,2,none⟩) hr5.box _) (by rw[hsz];exact Nat.le_refl _) (by decide)) (hr5.set2 true) (by omega) hnS).mono ?_⟩
  rintro e w' ⟨rfl,j1,j2,j3⟩
  have hsz':=j3.size
  rw[hsz] at hsz'
  refine⟨rfl,⟨ss,hNms,?_⟩,j2,?_⟩
  ·rw[hbs]
   refine j1.mono (fun i hi=>?_) (by omega)
   have:=hb3.size
   rcases hi with (hi | hi) | hi
   ·exact .inl hi
   ·exact .inr ⟨by omega,by have:=k2.size;omega⟩
   ·exact .inr ⟨by have:=hal.size;omega,by omega⟩
  ·refine((hal5.mono (S':=Sr S R) (fun i hi=>.inl hi)).trans (Al.of_set (S:=Sr S R) (p:=⟨R,2,none⟩) (.inr rfl) _) (fun i hi=>.inl hi)).trans j3 (fun i hi=>?_)
   rcases hi with ((hi | hi) | hi) | hi
   ·exact .inl (.inl hi)
   ·exact .inr (by have:=hb3.size;omega)
   ·exact .inr (by have:=hb3.size;have:=hal.size;omega)
   ·exact .inl (.inr hi)
 unfold sV nw pr at C97
 clear hHeld hfw hal hal4 hS4 hpb hg1 hg2 hb13 hb12 hPx q1 q2 q3 q4 HL C96 HWR hNms hbl
 go_wp2_with (first
  | (go_at_call 97;refine C97.mono ?_;rintro e u5 ⟨rfl,k1,k2⟩;obtain⟨j1,j2,j3⟩:=HFIN.out u5 k1 k2;have J3:=hid j3;clear k1 k2 j3)
  | (go_at_call 88;refine J3.out.mono ?_;rintro e w' ⟨rfl,kk⟩;have KK:=hid kk;clear kk))
 exact bodyPost_ret (results_tmp Tryz.results59 _ _ _) rfl ⟨rfl,KK.out⟩
def Wrote (S:Nat->Prop) (N D R t':Nat) (fs:Str->Prop) (w:World) (e:Ending) (w':World):Prop:=e=.returned .nilIface/\(∃ f,fs f/\FD (Sx S w w') (N+4) w' D (some (nm f)))/\Rf w' R D t' true false/\Al (Sr S R) w w'
def Anew (T:Ts) (f:Str):Prop := ∃ ss,Nms T ss/\f=bkS (wrL (stN T ss))
theorem anew2 (S:Nat->Prop) (N D R t t' n:Nat) (go:Bool) (o:Option (List Int)) (T:Ts) (w:World) (h:FD S N w D o) (hR:Rf w R D t go false) (hS:¬ S R) (hlim:∀ i,S i->i<w.heap.size) (hN:N<=70000) (hol:∀ z,o=some z->z.length<=500000000)
  (hT:Tt (Sr S R) w t' n T) (hn:n<=100000) (hok:∀ ss,Nms T ss->(∀ s ∈ stN T ss,StL s)/\(wrL (stN T ss)).length<=280000000/\(stN T ss).length<=1000000) (ht:Tab w) (hdb:Db w) :
  Calls Tryz.prog 59 #[.pointer (some ⟨R,0,none⟩),.map (some t')] w (Wrote S N D R t' (Anew T) w) :=
 (anew_any S N D R t t' n go o T w h hR hS hlim hN hol hT hn hok ht hdb).mono fun e w' ⟨h1,⟨ss,h2,h3⟩,h4⟩=>⟨h1,⟨_,⟨ss,h2,rfl⟩,h3⟩,h4⟩
theorem add_new (S:Nat->Prop) (N D R t t' n:Nat) (o:Option (List Int)) (T:Ts) (v:Value) (w:World) (h:FD S N w D o) (hR:Rf w R D t false false) (hS:¬ S R) (hlim:∀ i,S i->i<w.heap.size) (hN:N<=70000) (hol:∀ z,o=some z->z.length<=500000000)
  (hT:Tt (Sr S R) w t' n T) (hn:n<=100000) (hok:∀ ss,Nms T ss->(∀ s ∈ stN T ss,StL s)/\(wrL (stN T ss)).length<=280000000/\(stN T ss).length<=1000000) (ht:Tab w) (hdb:Db w) :
  Calls Tryz.prog 50 #[.pointer (some ⟨R,0,none⟩),v,.map (some t')] w (Wrote S N D R t' (Anew T) w):=by
 have h2:=hR.c.2.2.1
 have ha:=anew2 S N D R t t' n false o T w h hR hS hlim hN hol hT hn hok ht hdb
 clear h hR hT hok
 go_enter Tryz.func50,Tryz.ntmps50
 go_wp2_with (go_at_call 59;refine ha.mono ?_;rintro e w1 ⟨rfl,k⟩;have K:=hid k;clear k)
 exact bodyPost_ret (results_tmp Tryz.results50 _ _ _) rfl ⟨rfl,K.out⟩
set_option maxHeartbeats 2000000 in
theorem add_more (S:Nat->Prop) (N D R t t':Nat) (f:Str) (a:Option Addr) (c:Nat) (ss:List Sp) (w:World) (h:FD S N w D (some (nm f))) (hR:Rf w R D t true false) (hS:¬ S R) (hlim:∀ i,S i->i<w.heap.size) (hN:N<=70000) (hfl:f.length<=200000000)
  (hP:Px zX 68 dS w a c ss) (hok:∀ s ∈ ss,StL s) (hl:(wrL ss).length<=280000000) (hns:ss.length<=1000000) (ht:Tab w) (hdb:Db w) :
  Calls Tryz.prog 50 #[.pointer (some ⟨R,0,none⟩),.slice a ss.length c,.map (some t')] w (Wrote S N D R t' (fun f'=>f'=f++bkS (wrL ss)) w):=by
 obtain⟨r,HR⟩:=nm_ w.heap.size
 have hsa:=ZX R D t true w hR
 have h2:=hR.c.2.2.1
 have hRr:R<r:=by rw[<-HR.out];exact z7 hR.box
 have HC0:Hid (∀ W,Below r w W->W.cell? ⟨R,0,none⟩=some (.pointer (some ⟨D,0,none⟩))):=fun W hW=>(hW.cell (p:=⟨R,0,none⟩) hRr).trans hR.c.1
 have HL:Hid (∀ W,Below r w W->Calls Tryz.prog 87 #[.slice a ss.length c] W fun e w1=>Below W.heap.size W w1/\∃ v,e=.returned v/\Calls Tryz.prog 86 #[v] w1 fun e2 w2=>Below W.heap.size W w2/\∃ g cap,e2=.returned (.slice (some ⟨g,0,none⟩) (bkS (wrL ss)).length cap)/\PB w2 (some ⟨g,0,none⟩) cap (bkS (wrL ss))/\W.heap.size<=g/\g<w2.heap.size):=fun W hW=>lay_any a c ss W (ht.below (by rw[HR.out];exact hW)) (hdb.below (by rw[HR.out];exact hW)) (hP.below (by rw[HR.out];exact hW)) hok hl hns
 obtain⟨bs,hbs⟩:∃ bs,bkS (wrL ss)=bs:=⟨_,rfl⟩
 have hbl:bs.length<=280000105:=by
  rw[<-hbs]
  unfold bkS
  rw[List.length_append,uZ _ (by omega)]
  omega
 obtain⟨n,hn⟩:∃ n,ss.length=n:=⟨_,rfl⟩
 obtain⟨bl,hbl2⟩:∃ n,bs.length=n:=⟨_,rfl⟩
 have HAP:Hid (∀ W g cap,Below r w W->PB W (some ⟨g,0,none⟩) cap bs->Calls Tryz.prog 85 #[.pointer (some ⟨D,0,none⟩),sV pr,.slice (some ⟨g,0,none⟩) bl cap] W fun e w'=>e=.returned .nilIface/\FD (Sx S W w') N w' D (some (nm (f++bs)))/\Al S W w'):=fun W g cap hW hP=>by
  have:=fd_append S N D (nm f) (some ⟨g,0,none⟩) cap (nm bs) W (h.below (by rw[HR.out];exact hW)) (sl_pb hP) (by rw[yX,yX];omega)
  rw[yX,hbl2,<-nm_app] at this
  exact this
 have HRf:Hid (∀ W,Al S w W->Rf W R D t true false):=fun W hW=>hR.al hW hS
 have HNS:=hid hS
 have hc0:=HC0.out w (Below.refl _ _)
 have hin:=fun W=>is_nil 44 (.int .i64 3) W
 rw[hbs] at HL ⊢
 rw[hn] at HL ⊢
 rw[hbl2] at HL
 clear h hR hP hok ht hdb hlim hn
 go_enter Tryz.func50,Tryz.ntmps50
 go_wp2_with (go_at_call 84;refine hsa.mono ?_;rintro e w1 ⟨rfl,hw1⟩;have hw1':=hw1.symm;subst hw1';clear hw1 hsa)
 refine wp_region_held_drew (S:=fun W=>W.cell? ⟨R,0,none⟩=some (.pointer (some ⟨D,0,none⟩))) (by kernel_rfl) hc0 (fun hHeld=>?_)
 have hb0:Below r w w.drew:=by rw[<-HR.out];exact zv _ _ 1
 generalize w.drew=u0 at hHeld hb0 ⊢
 iterate 5
  refine qq (v:=?_) hHeld ?_ ?_
  rotate_left
  ·intro w' c0;go_simp;rfl
  try simp only[Act.put,sL]
 have hGu0:r<=u0.heap.size:=by have:=hb0.size;have:=HR.out;omega
 refine vv 5 87 [.tmp 26] [.slice a n c] (HL.out u0 hb0) ?_
 rintro e u2 ⟨hb12,v2,rfl,c86⟩
 have hb2:Below r w u2:=hb0.trans (hb12.mono hGu0)
 refine⟨_,rfl,HC0.out _ hb2,fun hHeld=>?_⟩
 try simp only[Act.put,sL]
 refine vv 6 86 [.tmp 27] [v2] c86 ?_
 rintro e u3 ⟨hb13,g,cap,rfl,hpb,hg1,hg2⟩
 have hb3:Below r w u3:=hb0.trans (hb13.mono hGu0)
 refine⟨_,rfl,HC0.out _ hb3,fun hHeld=>?_⟩
 try simp only[Act.put,sL]
 refine vv 7 85 [.tmp 25,.const (.string ⟨#[112,97,99,107,101,100,45,114,101,102,115]⟩),.tmp 28] [.pointer (some ⟨D,0,none⟩),sV pr,.slice (some ⟨g,0,none⟩) bl cap] (HAP.out u3 g cap hb3 hpb) ?_
 rintro e u4 ⟨rfl,hfd,hal⟩
 have hRu3:R<u3.heap.size:=by have:=hb3.size;have:=HR.out;omega
 have hal4:Al S w u4:=(Al.below (by rw[HR.out];exact hb3)).trans hal (fun i hi=>.inl hi)
 have hr4:=HRf.out u4 hal4
 refine⟨_,rfl,hr4.c.1,fun hHeld=>?_⟩
 try simp only[Act.put,sL]
 refine qq (v:=?_) hHeld ?_ ?_
 rotate_left
 ·intro w' c0;go_simp;rfl
 try simp only[Act.put,sL]
 refine wpAnyH_done (by kernel_rfl) ?_ _
 have hS4:¬ Sx S u3 u4 R:=fun hs=>by
  rcases hs with hs | hs
  ·exact HNS.out hs
  ·omega
 have C88:Calls Tryz.prog 88 #[.pointer (some ⟨R,0,none⟩),.map (some t')] u4 (Wrote S N D R t' (fun f'=>f'=f++bs) w):=by
  refine(tell_any _ N R D t t' true false _ u4 hfd hr4 (by omega) hS4).mono ?_
  rintro e w' ⟨rfl,j1,j2,j3⟩
  have hsz':=j3.size
  have hs3:=hb3.size
  refine⟨rfl,⟨_,rfl,j1.mono (fun i hi=>?_) (by omega)⟩,j2,(hal4.mono (S':=Sr S R) (fun i hi=>.inl hi)).trans j3 (fun i hi=>?_)⟩
  ·rcases hi with hi | hi
   ·exact .inl hi
   ·exact .inr ⟨by omega,by omega⟩
  ·rcases hi with (hi | hi) | hi
   ·exact .inl (.inl hi)
   ·exact .inr (by omega)
   ·exact .inl (.inr hi)
 clear hHeld hfd hal hal4 hS4 hpb hg1 hg2 hb13 hb12 HL HAP hr4
 go_wp2_with (first
  | (go_at_call 66;refine(hin _).mono ?_;rintro e w' ⟨rfl,hw⟩;have hw':=hw.symm;subst hw';clear hw)
  | (go_at_call 88;refine C88.mono ?_;rintro e w' ⟨rfl,kk⟩;have KK:=hid kk;clear kk))
 exact bodyPost_ret (results_tmp Tryz.results50 _ _ _) rfl ⟨rfl,KK.out⟩
structure Rp (w:World) (R D:Nat):Prop where
 box:w.heap[R]? = some (.cells #[.pointer (some ⟨D,0,none⟩),.map none,.bool false,.bool false] 107 (0,0))
theorem Rp.c {w:World} {R D:Nat} (h:Rp w R D):w.cell? ⟨R,0,none⟩=some (.pointer (some ⟨D,0,none⟩))/\w.cell? ⟨R,1,none⟩=some (.map none)/\w.cell? ⟨R,2,none⟩=some (.bool false)/\(∀ i,w.frozen? ⟨R,i,none⟩=false):=by
 have hb:=h.box
 exact⟨by simp[World.cell?,hb],by simp[World.cell?,hb],by simp[World.cell?,hb],fun i=>by simp[World.frozen?,hb]⟩
theorem Rp.put {w:World} {R D:Nat} (h:Rp w R D) (t:Nat):Rf (w.setCell ⟨R,1,none⟩ (.map (some t))) R D t false false:=⟨by rw[qy h.box];rfl⟩
abbrev SrE (S:Nat->Prop) (R:Nat) (E:Nat->Prop):Nat->Prop:=fun i=>Sr S R i ∨ E i
def Opn (S E:Nat->Prop) (N D R:Nat) (o:Option Str) (m:Rk.Tb Str Kp Le) (k:Nat) (w w':World):Prop:=FD S N w' D (o.map nm)/\∃ t T,Rf w' R D t o.isSome false/\Tt (SrE S R E) w' t k T/\aT T=m/\Al (Sr S R) w w'
theorem opn_put (S E:Nat->Prop) (N D R:Nat) (o:Option Str) (w W:World) (h:FD S N w D (o.map nm)) (hp:Rp w R D) (hb:Below w.heap.size w W) :
  Rp W R D/\∀ t k T,Tt (SrE S R E) W t k T->(o=none->Opn S E N D R o (aT T) k w (W.setCell ⟨R,1,none⟩ (.map (some t))))/\(o.isSome=true->(W.setCell ⟨R,1,none⟩ (.map (some t))).frozen? ⟨R,2,none⟩=false/\(W.setCell ⟨R,1,none⟩ (.map (some t))).cell? ⟨R,2,none⟩=some (.bool false)/\Opn S E N D R o (aT T) k w ((W.setCell ⟨R,1,none⟩ (.map (some t))).setCell ⟨R,2,none⟩ (.bool true))):=by
 have hpW:Rp W R D:=⟨(hb.block R (z7 hp.box)).trans hp.box⟩
 refine⟨hpW,fun t k T hT=>?_⟩
 obtain⟨W1,hW1⟩:∃ W1,W.setCell ⟨R,1,none⟩ (.map (some t))=W1:=⟨_,rfl⟩
 have h1:Rf W1 R D t false false:=by rw[<-hW1];exact hpW.put t
 have h2:FD S N W1 D (o.map nm):=by rw[<-hW1];exact(h.below hb).tf (Tf.set (p:=⟨R,1,none⟩) hpW.box _) (by simp[World.setCell]) (by decide)
 have h3:Al (Sr S R) W W1:=by rw[<-hW1];exact Al.of_set (S:=Sr S R) (p:=⟨R,1,none⟩) (.inr rfl) _
 have h4:Al (Sr S R) w W1:=(Al.below hb).trans h3 (fun i hi=>.inl hi)
 rw[hW1]
 refine⟨fun e=>?_,fun e=>⟨h1.c.2.2.2.2 2,h1.c.2.2.1,?_⟩⟩
 ·subst e
  exact⟨h2,t,T,h1,hT.al (h3.mono fun i hi=>.inl hi),rfl,h4⟩
 ·have h5:Al (Sr S R) W1 (W1.setCell ⟨R,2,none⟩ (.bool true)):=Al.of_set (S:=Sr S R) (p:=⟨R,2,none⟩) (.inr rfl) _
  refine⟨h2.tf (Tf.set (p:=⟨R,2,none⟩) h1.box _) (by simp[World.setCell]) (by decide),t,T,?_,(hT.al (h3.mono fun i hi=>.inl hi)).al (h5.mono fun i hi=>.inl hi),rfl,h4.trans h5 (fun i hi=>.inl hi)⟩
  rw[e]
  exact h1.set2 true
set_option maxHeartbeats 1000000 in
theorem findF_none (S E:Nat->Prop) (N D R:Nat) (w:World) (h:FD S N w D none) (hp:Rp w R D) (hS:∀ i,SrE S R E i->i<w.heap.size) (hN:N<=90000) :
  Calls Tryz.prog 38 #[.pointer (some ⟨R,0,none⟩)] w fun e w'=>e=.returned .nilIface/\Opn S E N D R none noT 0 w w':=by
 obtain⟨r,HR⟩:=nm_ w.heap.size
 have hrd:=fd_read0 S N D w h
 have HO:Hid (∀ W,Below r w W->Rp W R D/\FD S N W D none/\(W.alloc (.map #[] 0)).frozen? ⟨R,1,none⟩=false/\(W.alloc (.map #[] 0)).cell? ⟨R,1,none⟩=some (.map none)/\Opn S E N D R none noT 0 w ((W.alloc (.map #[] 0)).setCell ⟨R,1,none⟩ (.map (some W.heap.size)))):=fun W hW=>by
  have hW':Below w.heap.size w W:=by rw[HR.out];exact hW
  have ha:Below w.heap.size w (W.alloc (.map #[] 0)):=hW'.trans ((Below.refl _ W).alloc hW'.size _)
  obtain⟨q1,q2⟩:=opn_put S E N D R none w _ h hp ha
  have hT:=(To.none (S:=SrE S R E) (w:=W) (fun i hi=>Nat.lt_of_lt_of_le (hS i hi) hW'.size)).tt
  exact⟨(opn_put S E N D R none w W h hp hW').1,h.below hW',q1.c.2.2.2 1,q1.c.2.1,(q2 _ _ _ hT).1 rfl⟩
 have hmk:∀ W:World,(Instr.makeMap 105 none).run Tryz.prog W=.ok (.map (some W.heap.size)) (W.alloc (.map #[] 0)):=fun W=>by kernel_rfl
 have h0:=hp.c.1
 unfold sV pr at hrd
 clear h hp hS
 go_enter Tryz.func38,Tryz.ntmps38
 go_wp2_with (first
  | (go_at_call 65;refine hrd.mono ?_;rintro e w1 ⟨b,rfl,kb,hb1⟩;rw[HR.out] at hb1;obtain⟨p1,f1,_⟩:=HO.out w1 hb1;have h10:=p1.c.1;have hif:=is_file b w1 kb;have hls:=fd_list S N D none w1 f1 hN;have HB1:=hid hb1;clear kb hrd p1 f1 hb1)
  | (go_at_call 66;refine hif.mono ?_;rintro e w' ⟨rfl,hw⟩;have hw':=hw.symm;subst hw';clear hw hif)
  | (go_at_call 15;refine hls.mono ?_;rintro e w2 ⟨a,n,c,rfl,hb2,hct⟩;have hb2':Below r w w2:=HB1.out.trans (hb2.mono (by have:=HB1.out.size;have:=HR.out;omega));obtain⟨_,_,z1,z2,z3⟩:=HO.out w2 hb2';have Z3:=hid z3;have hm2:=hmk w2;have Z12:=hid (And.intro z1 z2);generalize w2.alloc (.map #[] 0)=w3 at hm2 z1 z2 z3 Z3 Z12;generalize w2.heap.size=g3 at hm2 Z3 z3;clear z3 hls hb2 hb2' hmk)
  | (go_at_call 67;refine hct.mono ?_;rintro e w' ⟨rfl,hw⟩;have hw':=hw.symm;subst hw';clear hw hct)
  | (refine z8 rfl _ (exec_mkm rfl hm2) ?_;go_frame))
 exact bodyPost_ret (results_tmp Tryz.results38 _ _ _) rfl ⟨rfl,Z3.out⟩
set_option maxHeartbeats 1000000 in
theorem findF_some (S E:Nat->Prop) (N D R:Nat) (bs:List (List Sp)) (w:World) (h:FD S N w D (some (nm (fB bs)))) (hp:Rp w R D) (hS:∀ i,SrE S R E i->i<w.heap.size) (hN:N<=90000) (hne:bs ≠ []) (hok:∀ ss ∈ bs,∀ s ∈ ss,StC s) (hg:StG noT (bs.flatten.map cnS)) (hn:bs.flatten.length<=70000) (hl:(fB bs).length<=250000000) (hcan:Can (stF noT (bs.flatten.map cnS))) (ht:Tab w) (her:Ers w) (hmx:Mx w) (hdb:Db w) (hec:Ec w) :
  Calls Tryz.prog 38 #[.pointer (some ⟨R,0,none⟩)] w fun e w'=>e=.returned .nilIface/\Opn S E N D R (some (fB bs)) (stF noT (bs.flatten.map cnS)) bs.flatten.length w w':=by
 obtain⟨r,HR⟩:=nm_ w.heap.size
 have hrd:=fd_read S N D (fB bs) w h (by omega)
 have HO:Hid (∀ W,Below r w W->Rp W R D/\FD S N W D (some (nm (fB bs)))):=fun W hW=>by
  have hW':Below w.heap.size w W:=by rw[HR.out];exact hW
  exact⟨(opn_put S E N D R (some (fB bs)) w W h hp hW').1,h.below hW'⟩
 have HRB:Hid (∀ W a c,Below r w W->PB W a c (fB bs)->(∀ p:Addr,a=some p->p.block<W.heap.size)->Calls Tryz.prog 69 #[.slice a (fB bs).length c] W fun e w'=>∃ t,e=.returned (.tuple #[.map (some t),.bool true,.nilIface])/\w'.frozen? ⟨R,1,none⟩=false/\w'.cell? ⟨R,1,none⟩=some (.map none)/\(w'.setCell ⟨R,1,none⟩ (.map (some t))).frozen? ⟨R,2,none⟩=false/\(w'.setCell ⟨R,1,none⟩ (.map (some t))).cell? ⟨R,2,none⟩=some (.bool false)/\Opn S E N D R (some (fB bs)) (stF noT (bs.flatten.map cnS)) bs.flatten.length w ((w'.setCell ⟨R,1,none⟩ (.map (some t))).setCell ⟨R,2,none⟩ (.bool true))):=fun W a c hW hP hpa=>by
  have hW':Below w.heap.size w W:=by rw[HR.out];exact hW
  refine(readBlocks_any (SrE S R E) a c bs W (fun i hi=>Nat.lt_of_lt_of_le (hS i hi) hW'.size) hP hpa hne hok hg hn hl hcan (ht.below hW') (her.below hW') (hmx.below hW') (hdb.below hW') (hec.below hW')).mono ?_
  rintro e w' ⟨t,T,rfl,hTo,hA,hb⟩
  obtain⟨q1,q2⟩:=opn_put S E N D R (some (fB bs)) w w' h hp (hW'.trans (hb.mono hW'.size))
  obtain⟨_,q3⟩:=q2 _ _ _ hTo.tt
  obtain⟨q4,q5,q6⟩:=q3 rfl
  rw[hA] at q6
  exact⟨t,rfl,q1.c.2.2.2 1,q1.c.2.1,q4,q5,q6⟩
 have h0:=hp.c.1
 obtain⟨L,hL⟩:∃ L,(fB bs).length=L:=⟨_,rfl⟩
 unfold sV pr at hrd
 rw[hL] at hrd HRB
 have hin:=fun W=>is_nil 44 (.int .i64 3) W
 clear h hp hS hok hg hcan ht her hmx hdb hec hL hl
 go_enter Tryz.func38,Tryz.ntmps38
 go_wp2_with (first
  | (go_at_call 65;refine hrd.mono ?_;rintro e w1 ⟨a,c,rfl,kP,kp,hb1⟩;rw[HR.out] at hb1;obtain⟨p1,f1⟩:=HO.out w1 hb1;have h10:=p1.c.1;have hls:=fd_list S N D _ w1 f1 hN;have HB1:=hid hb1;have KP:=hid kP;have Kp:=hid kp;clear hrd p1 f1 hb1 kP kp)
  | (go_at_call 66;refine(hin _).mono ?_;rintro e w' ⟨rfl,hw⟩;have hw':=hw.symm;subst hw';clear hw)
  | (go_at_call 15;refine hls.mono ?_;rintro e w2 ⟨a',n',c',rfl,hb2,hct⟩;have hb2':Below r w w2:=HB1.out.trans (hb2.mono (by have:=HB1.out.size;have:=HR.out;omega));have hrb:=HRB.out w2 a c hb2' (KP.out.tf (fun q hq=>hb2.block _ (Kp.out q hq)) hb2.size) (fun p hp=>Nat.lt_of_lt_of_le (Kp.out p hp) hb2.size);clear hls hb2 hb2')
  | (go_at_call 67;refine hct.mono ?_;rintro e w' ⟨rfl,hw⟩;have hw':=hw.symm;subst hw';clear hw hct)
  | (go_at_call 69;refine hrb.mono ?_;rintro e w3 ⟨t,rfl,z1,z2,z3,z4,z5⟩;have Z5:=hid z5;clear z5 hrb))
 exact bodyPost_ret (results_tmp Tryz.results38 _ _ _) rfl ⟨rfl,Z5.out⟩
section
variable {α : Type} {enc : α → List Value} {k : Nat} {d : α}
theorem step_bx {ops:Array Oper} {w w0:World} {o:Oper} {a:Act} {K:Act->World->Prop} {Q:Exit->Act->World->Prop} {E:Prop} (s x:Operand) (t e:TypeId) (hu:Tryz.prog.underlying t=some (.slice e)) {z:Value} {by_:Nat} (hin:(Tryz.prog.info? e).map (fun i=>(i.zero,i.size,i.bytes))=some (some z,k,by_)) (hz:z.cells.size=k) (hk:0<k) (hby:by_<=300)
  (hone:∀ x,∀ v ∈ enc x,v.oneCell'=true)
  (B:Nat) (v:Value) (l:List α) (hs:a.eval s=v) (h:Bx enc k e w0 w B v l)
  (ax:Option Addr) (cx:Nat) (m:List α) (hx:a.eval x=.slice ax m.length cx) (hP:Px enc k d w ax cx m) (hw:∀ x ∈ m,(enc x).length=k) (hl:l.length+m.length<=1000000000)
  (hK:∀ v' w',Bx enc k e w0 w' B v' (l++m)->Mv w w' v v'->K (a.put o.dst v') w')
  (ho:o.op=.call { callee:=.builtin .append,args:=#[s,x],argTypes:=#[t,t] }:=by rfl) (hg:o.guard=none:=by rfl) :
  if Region.wanted o (yielded ops a.tmps)=true then Oper.wp Tryz.prog o a w K Q else E:=by
 obtain⟨v',w',hr,h1,h2⟩:=exec_bx_slM s x t e hu hin hz hk hby hone ho B v l hs h ax cx m hx hP hw hl
 exact jy hg v' hr (hK v' w' h1 h2)
end
end Go.Proofs.YtgliaiemkfopeaaGreatDoor.K
