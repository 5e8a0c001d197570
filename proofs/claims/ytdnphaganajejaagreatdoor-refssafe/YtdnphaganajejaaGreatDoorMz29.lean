import Derived.Test.YtdnphaganajejaaGreatDoorMz28
import Derived.Test.YtdnphaganajejaaGreatDoorMz26
set_option linter.unusedSimpArgs false
set_option linter.unusedVariables false
set_option maxRecDepth 20000
set_option maxHeartbeats 4000000
open List renaming append_assoc->Wy8,drop_append_of_le_length->Wxq,drop_eq_getElem_cons->WqJ,drop_of_length_le->Wxx,flatMap_append->Wzj,length_append->Wzy,length_map->Wx7,length_pos_iff->WzX,length_take->WzJ,map_append->Wxu,nil_append->WyX,size_toArray->Wyu,take_append_drop->WxZ,take_append_of_le_length->Wxj,take_of_length_le->Wq0,take_take->WyY
open Nat renaming le_refl->Wz8
open Option renaming map_some->Wq7,some->Wq8
namespace Go.Proofs.YtdnphaganajejaaGreatDoor.K
open Go.Proofs.Tryz
open Go.RowKit
theorem results79:f79.results=#[.tmp 4,.tmp 5]:=by kernel_rfl
theorem own_k {w W:World} {B n:Nat} {v:Value} {xs:List Value} (h:w.ownsRow B 146 68 v n xs) (D:∀ (i:Nat) (c:Array Value) (f:Nat × Nat),w.heap[i]? = some (.cells c 146 f)->W.heap[i]? = some (.cells c 146 f)):W.ownsRow B 146 68 v n xs:=by
 obtain⟨j,h | ⟨g,cap,cur,hv,hb,A,r⟩⟩:=h
 ·exact⟨j,.inl h⟩
 exact⟨j,.inr ⟨g,cap,cur,hv,hb,D g _ _ A,r⟩⟩
def qqQ (S:Nat->Prop) (g t n:Nat) (m:Rk.Tb Str Kp Le) (v:Value) (w:World) (e:Ending) (w':World):Prop := ∃ T',e=.returned (.tuple #[v,.nilIface])/\To S g w' t n T'/\aT T'=m/\Bg g w w'
theorem Gy (S:Nat->Prop) (g t n:Nat) (T:Ts) (a:Option Addr) (c:Nat) (ss:List Sp) (rest:Str) (w:World) (h:To S g w t n T) (hP:PB w a c (bkS (wrL ss)++rest)) (ai:∀ p:Addr,a=some p->p.block<w.heap.size) (j:∀ s ∈ ss,StC s) (hg:StG (aT T) (ss.map cnS)) (hn:n+ss.length<=80000) (hl:(wrL ss).length<=280000000) (hr:rest.length<=500000000) (ht:Tab w) (aF:Ers w) (aJ:Mx w) (aE:Db w) :
  Calls prog 79 #[.map (some t),.slice a (bkS (wrL ss)++rest).length c] w (qqQ S g t (n+ss.length) (stF (aT T) (ss.map cnS)) (.slice (adX 1 a c (105+(wrL ss).length)) rest.length (c-(105+(wrL ss).length):Nat)) w):=by
 have aG:g<=w.heap.size:=by have:=h.tt.tm.lt;have:=h.ge;omega
 have D:=qqx a c (wrL ss) rest w hP (by omega) (by omega) aE;have aD:(bkS (wrL ss)).length=105+(wrL ss).length:=by unfold bkS;rw[Wzy,xW _ (by omega)]
 have A:=hP.mid 105 (105+(wrL ss).length) (by omega) (by rw[Wzy,aD];omega);have aI:((bkS (wrL ss)++rest).drop 105).take (105+(wrL ss).length-105)=wrL ss:=by
  have aX:(hdS (wrL ss)).length=105:=xW _ (by omega);unfold bkS;rw[Wy8,Wxq (by omega),Wxx (by omega),WyX,show 105+(wrL ss).length-105=(wrL ss).length by omega,List.take_left]
 rw[aI] at A;have a8:Hid (∀ p:Addr,adX 1 a c 105=some p->p.block<w.heap.size):=fun p hp=>by
  unfold adX at hp;split at hp
  ·exact ai p hp
  cases a with
  | none=>cases hp
  | some q=>simp only[Wq7,Wq8.injEq] at hp;subst hp;exact ai q rfl
 obtain⟨M,hM⟩:∃ M,(bkS (wrL ss)++rest).length=M:=⟨_,rfl⟩;obtain⟨L,hL⟩:∃ L,(wrL ss).length=L:=⟨_,rfl⟩;obtain⟨la,Y⟩:∃ l,adX 1 a c 105=l:=⟨_,rfl⟩;obtain⟨lc,ag⟩:∃ l,c-105=l:=⟨_,rfl⟩;obtain⟨ra,aj⟩:∃ l,adX 1 a c (105+(wrL ss).length)=l:=⟨_,rfl⟩;obtain⟨rc,ak⟩:∃ l,c-(105+(wrL ss).length)=l:=⟨_,rfl⟩;obtain⟨rl,am⟩:∃ l,rest.length=l:=⟨_,rfl⟩;rw[Y,ag] at A;rw[Y] at a8
 have a6:∀ W,Below w.heap.size w W->Calls prog 110 #[.slice la L lc] W (RW ss W):=fun W V=>by
  have:=Gw la lc ss W (A.below V) (fun p hp=>Nat.lt_of_lt_of_le (a8.out p hp) V.size) j (by omega) (by omega) (ht.below V) (aF.below V) (aJ.below V);rw[hL] at this;exact this
 obtain⟨N,HN⟩:=nm_ ss.length;have aZ:n+N<=80000:=by rw[<-HN.out];exact hn
 have I:Hid ((ss.map cnS).length=N):=hid (by rw[Wx7,HN.out]);have aO:=hid hg;have H:=hid h;have ax:Hid (∀ s ∈ ss.map cnS,vV s):=fun s hs=>by
  obtain⟨q,hq,rfl⟩:=List.mem_map.1 hs;exact Vw (j q hq).st
 rw[hM,aj,ak,am,HN.out];rw[hM,Y,ag,aj,ak,am,hL] at D;have aP:=hid aG;clear h hP ai j hg hn hl hr ht aF aJ aE aD A aI a8 hM hL Y ag aj ak am aG;go_enter func79,ntmps79;go_wp2_with (first
  | (go_at_call 109;refine D.mono ?_;rintro e w1 ⟨rfl,ae⟩;have G:=a6 w1 ae;have B1:=hid ae;clear ae a6 D)
  | (go_at_call 110;refine G.mono ?_;rintro e w2 ⟨⟨v,rfl,ho⟩,aC⟩;obtain⟨va,vc,hv⟩:=zu ho;rw[HN.out] at hv;subst hv;have HO:=hid ho;have B2:Hid (Below w.heap.size w w2):=hid (B1.out.trans (aC.mono B1.out.size));clear ho aC G))
 have aU:Hid (To S g w2 t (n+0) T):=hid (H.out.below B2.out);have ar:Hid (Bg g w2 w2):=hid ⟨Below.refl _ _,fun _ _ _ h=>h⟩;have aM:Hid (aT T=stF (aT T) ((ss.map cnS).take 0)):=hid rfl;have aR:Hid (∀ W,Bg g w2 W->∃ b off,(0<N->va=some ⟨b,off,none⟩)/\∀ i,i<N->W.rangeAt b (off+i*68) (zJ ((ss.map cnS).getD i dS))):=fun W V=>by
  have ho:=own_k HO.out V.k;have aV:W.ownsRow w1.heap.size 146 68 (.slice va N vc) (ss.map cnS).length ((ss.map cnS).flatMap zJ):=by rw[Wx7];exact ho
  obtain⟨a2,c2,e1,aW,_⟩:=uX (d:=dS) aV (fun x hx=>qx (ax.out x hx));by_cases h0:0<N
  ·obtain⟨b,off,e2,_,e3⟩:=aW.at_ (by rw[I.out];exact h0);subst e2;injection e1 with e4 _ _;exact⟨b,off,fun _=>e4,fun i hi=>e3 i (by rw[I.out];exact hi)⟩
  exact⟨0,0,fun h=>absurd h h0,fun i hi=>by omega⟩
 clear B1;go_loopg [31] N (fun q iv wr=>∃ (i:Nat) (Ti:Ts),iv=.int .i64 i/\q=N-i/\i<=N/\Hid (To S g wr t (n+i) Ti)/\Hid (aT Ti=stF (aT T) ((ss.map cnS).take i))/\Hid (Bg g w2 wr));case atStart=>exact⟨0,_,rfl,rfl,Nat.zero_le _,aU,aM,ar⟩
 obtain⟨i,Ti,rfl,b2,aY,Q,ac,ad⟩:=hrel;by_cases ah:i<N;rotate_left
 ·have aH:¬ (i:Int)<(N:Int):=by omega
  obtain rfl:i=N:=by omega
  have HF:Hid (aT Ti=stF (aT T) (ss.map cnS)):=hid (by rw[ac.out,Wq0 (by rw[I.out];exact Wz8 _)]);have aN:Hid (Bg g w wr):=hid (Bg.of B2.out aP.out ad.out);go_wp2;exact bodyPost_ret (results_tmp2 results79 _ _ _) rfl ⟨Ti,rfl,Q.out,HF.out,aN.out⟩
 have aH:(i:Int)<(N:Int):=by omega
 obtain⟨b,off,aA,aK⟩:=aR.out wr ad.out;have aB:=aA (by omega);subst aB;have e4:=aK i ah;obtain⟨st,ay⟩:=nm_ ((ss.map cnS).getD i dS);obtain⟨j,Z⟩:=StG.at (d:=dS) (ss.map cnS) _ aO.out i (by rw[I.out];exact ah);rw[ay.out] at j Z e4;rw[<-ac.out] at Z;obtain⟨O,K⟩:∃ B,zJ st=B:=⟨_,rfl⟩;have J:O.length=68:=by rw[<-K];exact qx j
 have aw:Hid ((prog.info? 146).map (·.size)=some O.length):=hid (by rw[J];kernel_rfl);have a7:Hid ((prog.info? 146).map (·.size)=some O.toArray.size):=hid (by rw[Wyu];exact aw.out);have aQ:Hid (O.toArray.all (·.oneCell')=true):=hid (all_oneCell_toArray (by rw[<-K];exact yk st));rw[K] at e4;have aS:=hid e4
 have ao:=fun W (V:To S g W t (n+i) Ti)=>SV S g t (n+i) Ti st W V j (by omega) Z;rw[K] at ao;have ap:Hid (∀ W:World,Below W.heap.size W (W.alloc (.cells O.toArray 146))):=fun W=>(Below.refl _ W).alloc (Wz8 _) _;have aL:=ao _ (Q.out.below (ap.out _))
 have au:Hid (∀ (T':Ts),aT T'=Rk.tk (aT Ti) (sP st)->aT T'=stF (aT T) ((ss.map cnS).take (i+1))):=fun T' he=>by rw[he,ac.out,SW (aT T) (ss.map cnS) i (by rw[I.out];exact ah) dS,ay.out]
 have az:Hid (68=O.toArray.size):=hid (by rw[Wyu,J]);have av:Hid (∀ w7,Bg g (wr.alloc (.cells O.toArray 146)) w7->Bg g w2 w7):=fun w7 h7=>ad.out.trans (Bg.of (ap.out wr) (by have:=Q.out.tt.tm.lt;have:=Q.out.ge;omega) h7);clear j Z e4 K J ao aK aA;go_wp2_with (first
  | (refine wpList_load_mid rfl 146 (.tmp 33) rfl _ _ rfl O _ aS.out underlying146 rfl aw.out ?_;go_frame)
  | (refine zq rfl 146 (.tmp 11) (.tmp 34) rfl _ O.toArray rfl rfl a7.out (by rw[<-az.out];rfl) aQ.out ?_;go_frame)
  | (refine zX rfl 146 (.tmp 11) rfl _ O.toArray 146 (0,0) _ rfl (heap_alloc_new _ _) underlying146 rfl a7.out ?_;go_frame)
  | (go_at_call 86;refine aL.mono ?_;rintro e w7 ⟨rfl,⟨T',k1,k2⟩,k3⟩;have K1:=hid k1;have K2:=hid (au.out T' k2);have K3:=hid (av.out w7 k3);clear k1 k2 k3))
 go_roundg (N-(i+1));case measure=>omega
 case rel=>exact⟨i+1,T',by go_num,rfl,by omega,K1,K2,K3⟩
theorem zzw (a:Option Addr) (c:Nat) (ls:Str) (m:Nat) (w:World) (te:TypeId) (pe:Value) (O:w.cell? ⟨1,0,none⟩=some (.iface te pe)) (hl:ls.length<=290000000) (h0:105<=m) (hm:m<105+ls.length) (hP:PB w a c ((bkS ls).take m)) :
  Calls prog 109 #[.slice a m c] w fun e w'=>e=.returned (.tuple #[.slice none 0 0,.slice none 0 0,.iface te pe])/\Below w.heap.size w w':=by
 obtain⟨G,HG⟩:=nm_ w.heap.size;have Q:(hdS ls).length=105:=xW ls (by omega);have au:(bkS ls).length=105+ls.length:=by unfold bkS;rw[Wzy,Q]
 obtain⟨n,hn⟩:∃ n,ls.length=n:=⟨_,rfl⟩;have hlen:((bkS ls).take m).length=m:=by rw[WzJ];omega
 have ax:m<=c:=by rw[<-hlen];exact hP.capl
 have az:n<=290000000:=by omega
 have h6:=hP.take 6;have a7:((bkS ls).take m).take 6=[98,108,111,99,107,32]:=by
  rw[WyY,show min 6 m=6 by omega];exact blk6 ls 6 (by omega)
 rw[a7] at h6;have ae:=jq h6;have j:=hP.take 105;have A:((bkS ls).take m).take 105=hdS ls:=by
  rw[WyY,show min 105 m=105 by omega];unfold bkS;rw[Wxj (by omega),Wq0 (by omega)]
 rw[A] at j;have h:=jq j;rw[Q] at h;obtain⟨D,HD⟩:=nm_ (⟨(hdS ls).toArray⟩:ByteArray);have L:(hdS ls).take 63=wdS ls:=by
  unfold hdS slS;rw[Wxj (by rw[kV ls (by omega)];omega),Wq0 (by rw[kV ls (by omega)];omega)]
 have J:((hdS ls).drop 6).take 16=h16 n:=by
  unfold hdS slS wdS;rw[hn];show ((h16 n++32 :: yV (sha (nm ls)))++_).take 16=_;rw[Wy8,Wxj (by rw[(k8 n (by omega)).1];omega),Wq0 (by rw[(k8 n (by omega)).1];omega)]
 obtain⟨ok1,ok2,V⟩:=k8 n (by omega);have s1:∀ W:World,(Instr.slice 9 (.string D) (some (.int .i64 6)) none none).run prog W=.ok (.string ⟨((hdS ls).drop 6).toArray⟩) W:=fun W=>by rw[<-HD.out];exact Ww (hdS ls) 6 (by omega) W
 have s2:∀ W:World,(Instr.slice 9 (.string ⟨((hdS ls).drop 6).toArray⟩) none (some (.int .i64 16)) none).run prog W=.ok (.string ⟨(h16 n).toArray⟩) W:=fun W=>by rw[<-J];exact Nm.slc_to ((hdS ls).drop 6) 16 (by rw[List.length_drop];omega) W
 have s3:∀ W:World,(Instr.slice 9 (.string D) none (some (.int .i64 63)) none).run prog W=.ok (.string ⟨(wdS ls).toArray⟩) W:=fun W=>by rw[<-HD.out,<-L];exact Nm.slc_to (hdS ls) 63 (by omega) W
 obtain⟨D6,ao⟩:=nm_ (⟨((hdS ls).drop 6).toArray⟩:ByteArray);obtain⟨Dn,Y⟩:=nm_ (⟨(h16 n).toArray⟩:ByteArray);obtain⟨Dw,Z⟩:=nm_ (⟨(wdS ls).toArray⟩:ByteArray);have ah:=KW (h16 n) (fun e=>by rw[e] at ok1;simp at ok1) (by omega) ok2 (by rw[V];omega) w;rw[V,Y.out] at ah;have I:=fun W=>XX (wdS ls) (by rw[kV ls (by omega)];omega) W
 have a8:sV (slS (wdS ls))=sV (hdS ls):=rfl;rw[a8] at I;unfold sV at I h ae;rw[HD.out,Z.out] at I;rw[HD.out] at h;rw[ao.out] at s1 s2;rw[Y.out] at s2;rw[Z.out] at s3;have ag:=fun W=>Nm.hasPrefix_any [98,108,111,99,107,32] [98,108,111,99,107,32] W;have ai:Lib.hasPrefix [98,108,111,99,107,32] [98,108,111,99,107,32]=true:=by decide
 rw[ai] at ag;obtain⟨b,off,e1,_⟩:=hP.at_ (by omega);subst e1;have aA:=Wv b off m c 6 (by omega);have aw:=Wv b off m c 105 (by omega);have ay:min (m:Int) 6=6:=by omega
 have g1:¬ ((m:Int)<105):=by omega
 have g2:(n:Int) > (m:Int)-105:=by omega
 have K:[98,108,111,99,107,(32:UInt8)].length=6:=rfl;rw[K] at ae;have ar:1<G:=by rw[<-HG.out];exact Nm.cell_lt O
 have ap:Hid (∀ W,Below G w W->W.cell? ⟨1,0,none⟩=some (.iface te pe)):=fun W hW=>(hW.cell (p:=⟨1,0,none⟩) ar).trans O;have g0:¬ ((n:Int)<0):=by omega
 clear hP hl h6 a7 j A L J ok1 ok2 V a8 ai K au hlen Q hn O;go_enter func109,ntmps109;go_wp2_with (first
  | (go_at_call 66;refine(ag _).mono ?_;rintro e w1 ⟨rfl,aj⟩;obtain rfl:=aj.symm;clear aj)
  | (go_at_call 138;refine ah.mono ?_;rintro e w2 ⟨rfl,ac⟩;have ak:=hid ac;clear ac)
  | (go_at_call 117;refine(I _).mono ?_;rintro e w3 ⟨rfl,ad⟩;have am:=hid ad;clear ad))
 have a6:Hid (Below G w w3):=hid (by
  have h1:=ak.out;rw[HG.out] at h1;exact h1.trans (am.out.mono (by have:=h1.size;have:=HG.out;omega)))
 have av:=ap.out w3 a6.out;refine wp_region_held_drew (S:=fun W=>W.cell? ⟨1,0,none⟩=some (.iface te pe)) (by kernel_rfl) av (fun M=>?_);iterate 4
  refine qy (v:=?_) M ?_ ?_;rotate_left
  ·intro w' c0;go_simp;try rfl
  try simp only[Act.put,sL]
 refine wpAnyH_done (by kernel_rfl) ?_ _;go_wp2;exact bodyPost_ret (results_tmp3 results109 _ _ _) rfl ⟨rfl,by rw[HG.out];exact vX _ 1 a6.out⟩
theorem zvJ (a:Option Addr) (c:Nat) (ls:Str) (m:Nat) (w:World) (D:TypeId) (A:Value) (j:w.cell? ⟨1,0,none⟩=some (.iface D A)) (I:ls.length<=290000000) (h0:0<m) (J:m<105+ls.length) (G:PB w a c ((bkS ls).take m)) :
  Calls prog 109 #[.slice a m c] w fun e w'=>e=.returned (.tuple #[.slice none 0 0,.slice none 0 0,.iface D A])/\Below w.heap.size w w':=by
 by_cases h:m<105
 ·exact zzx a c ls m w D A j I h0 h G
 exact zzw a c ls m w D A j I (by omega) J G
theorem zzy (t:Nat) (a:Option Addr) (c:Nat) (ls:Str) (m:Nat) (w:World) (D:TypeId) (A:Value) (j:w.cell? ⟨1,0,none⟩=some (.iface D A)) (I:ls.length<=290000000) (h0:0<m) (J:m<105+ls.length) (G:PB w a c ((bkS ls).take m)) :
  Calls prog 79 #[.map (some t),.slice a m c] w fun e w'=>e=.returned (.tuple #[.slice none 0 0,.iface D A])/\Below w.heap.size w w':=by
 have L:=zvJ a c ls m w D A j I h0 J G;clear G j J I;go_enter func79,ntmps79;go_wp2_with (go_at_call 109;refine L.mono ?_;rintro e w1 ⟨rfl,h⟩;have K:=hid h;clear h)
 exact bodyPost_ret (results_tmp2 results79 _ _ _) rfl ⟨rfl,K.out⟩
theorem results38:f38.results=#[.tmp 2,.tmp 3,.tmp 4]:=by kernel_rfl
def fB (bs:List (List Sp)):Str:=bs.flatMap fun ss=>bkS (wrL ss)
theorem YW:∀ (m:Rk.Tb Str Kp Le) (l r:List Sp),StG m (l++r) ↔ StG m l/\StG (stF m l) r
 | m,[],r=>by simp[StG,stF]
 | m,s :: l,r=>by
  have:=YW (Rk.tk m (sP s)) l r;simp only[List.cons_append,StG,this,stF,List.map_cons,List.foldl_cons];constructor
  ·rintro⟨a,b,c,d⟩;exact⟨⟨a,b,c⟩,d⟩
  rintro⟨⟨a,b,c⟩,d⟩;exact⟨a,b,c,d⟩
theorem I5 (m:Rk.Tb Str Kp Le) (l r:List Sp):stF m (l++r)=stF (stF m l) r:=by simp[stF]
def noT:Rk.Tb Str Kp Le:=fun _=>none
def zvK (tl:Str):Prop:=tl=[] ∨ ∃ ls m,tl=(bkS ls).take m/\0<m/\m<105+ls.length/\ls.length<=200000000
theorem zvK.len {j:Str} (h:zvK j):j.length<=200000105:=by
 rcases h with rfl | ⟨ls,m,rfl,h0,A,D⟩
 ·simp
 rw[WzJ];omega
structure Can (m:Rk.Tb Str Kp Le):Prop where
 at_:∀ x k l,m x=some (k,l)->(∀ b ∈ x,b<128)/\(k.2=[]->k.1 ≠ zZ)
 cl:¬ clA fun x=>(m x).isSome
theorem canM (S:Nat->Prop) (t n:Nat) (T:Ts) (w:World) (h:Tt S w t n T) (hc:Can (aT T)):Calls prog 80 #[.map (some t)] w fun e w'=>e=.returned (.bool true)/\Below w.heap.size w w':=by
 have hx:∀ x r,T x=some r->aT T x=some ((r.id,r.tg),r.log):=fun x r hr=>by unfold aT;rw[hr];rfl
 refine zv9 S t n T w h (fun x r hr=>(hc.at_ x _ _ (hx x r hr)).1) (fun x r hr=>(hc.at_ x _ _ (hx x r hr)).2) ?_;have:(fun x=>(aT T x).isSome)=dT T:=by funext x;unfold aT dT;cases T x <;> rfl
 rw[<-this];exact hc.cl
theorem To.none {S:Nat->Prop} {w:World} (h:∀ i,S i->i<w.heap.size):To S w.heap.size (w.alloc (.map #[] 0)) w.heap.size 0 (fun _=>none) :=
 ⟨⟨YX _ w,fun x r hr=>(by cases hr),fun hs=>(by have:=h _ hs;omega)⟩,fun x r hr=>(by cases hr),fun x y r q hx=>(by cases hx),Wz8 _,h⟩
theorem WQ {P:Program} {o:Oper} {a:Act} {w w':World} {t:TypeId} {v:Value} (h:o.op=.makeMap t none) (hr:(Instr.makeMap t none).run P w=.ok v w'):(execOp a.eval o).run P w=.ok (.value v) w':=by
 unfold execOp;simp[h,hr,Result.andThen]
def BW (S:Nat->Prop) (b:Bool) (n:Nat) (m:Rk.Tb Str Kp Le) (w:World) (e:Ending) (w':World):Prop := ∃ t T,e=.returned (.tuple #[.map (some t),.bool b,.nilIface])/\To S w.heap.size w' t n T/\aT T=m/\Below w.heap.size w w'
theorem zzu {a:Option Addr} {c j:Nat} {p:Addr} (h:adX 1 a c j=some p):∃ q:Addr,a=some q/\p.block=q.block:=by
 unfold adX at h;split at h
 ·exact⟨p,h,rfl⟩
 cases a with
 | none=>cases h
 | some q=>simp only[Wq7,Wq8.injEq] at h;subst h;exact⟨q,rfl,by rcases q with ⟨b,o,f⟩;cases f <;> simp[Addr.add] <;> split <;> rfl⟩
theorem WX (S:Nat->Prop) (a:Option Addr) (c:Nat) (bs:List (List Sp)) (A:Str) (w:World) (hS:∀ i,S i->i<w.heap.size) (av:zvK A) (hP:PB w a c (fB bs++A)) (b2:∀ p:Addr,a=some p->p.block<w.heap.size) (au:bs ≠ []) (aZ:∀ ss ∈ bs,∀ s ∈ ss,StC s) (hg:StG noT (bs.flatten.map cnS)) (hn:bs.flatten.length<=70000) (hl:(fB bs).length<=250000000) (aA:Can (stF noT (bs.flatten.map cnS))) (ht:Tab w) (aU:Ers w) (aY:Mx w) (aS:Db w) (Q:Ec w) :
  Calls prog 38 #[.slice a (fB bs++A).length c] w (BW S (decide (A=[])) bs.flatten.length (stF noT (bs.flatten.map cnS)) w):=by
 obtain⟨G,Y⟩:=nm_ w.heap.size;have aM:Hid (To S G (w.alloc (.map #[] 0)) G 0 (fun _=>none)):=hid (by rw[<-Y.out];exact To.none hS);obtain⟨W1,aD⟩:=nm_ (w.alloc (.map #[] 0));rw[aD.out] at aM;have ao:Below G w W1:=by rw[<-aD.out,<-Y.out];exact(Below.refl _ w).alloc (Wz8 _) _
 have aX:(Instr.makeMap 56 none).run prog w=.ok (.map (some w.heap.size)) (w.alloc (.map #[] 0)):=by kernel_rfl
 rw[aD.out,Y.out] at aX;have ac:Hid (∀ W,Below G w W->Tab W/\Ers W/\Mx W/\Db W/\Ec W):=fun W hW=>by
  have ai:Below w.heap.size w W:=by rw[Y.out];exact hW
  exact⟨ht.below ai,aU.below ai,aY.below ai,aS.below ai,Q.below ai⟩
 have b6:Hid (aT (fun _=>none)=noT):=hid rfl
 have aB:Hid (∀ (k:Nat) (W:World) (I:Ts) (J:Option Addr) (K:Nat),k<bs.length->Below G w W->To S G W G ((bs.take k).flatten.length) I->aT I=stF noT ((bs.take k).flatten.map cnS)->PB w J K (fB (bs.drop k)++A)->(∀ p:Addr,J=some p->p.block<G)->Calls prog 79 #[.map (some G),.slice J (fB (bs.drop k)++A).length K] W fun e W'=>∃ (Tj:Ts) (a2:Option Addr) (c2:Nat),e=.returned (.tuple #[.slice a2 (fB (bs.drop (k+1))++A).length c2,.nilIface])/\Below G w W'/\To S G W' G ((bs.take (k+1)).flatten.length) Tj/\aT Tj=stF noT ((bs.take (k+1)).flatten.map cnS)/\PB w a2 c2 (fB (bs.drop (k+1))++A)/\(∀ p:Addr,a2=some p->p.block<G)):=fun k W I J K hk hW bg aO aR aF=>by
  obtain⟨ss,aG⟩:∃ ss,bs.getD k []=ss:=⟨_,rfl⟩;have aW:ss ∈ bs:=by rw[<-aG];exact zQ bs k [] hk
  have hdr:bs.drop k=ss :: bs.drop (k+1):=by
   rw[WqJ hk,<-aG,List.getD_eq_getElem?_getD,List.getElem?_eq_getElem hk];rfl
  have bm:bs.take (k+1)=bs.take k++[ss]:=by rw[qk [] bs k hk,aG]
  have aV:(bs.take (k+1)).flatten=(bs.take k).flatten++ss:=by rw[bm];simp
  have ap:fB (bs.drop k)=bkS (wrL ss)++fB (bs.drop (k+1)):=by rw[hdr];simp[fB]
  have az:bs.flatten=(bs.take k).flatten++(ss++(bs.drop (k+1)).flatten):=by
   conv=>lhs;rw[<-WxZ k bs,hdr]
   simp
  have hlen:(fB (bs.drop k)).length<=(fB bs).length:=by
   conv=>rhs;rw[<-WxZ k bs]
   unfold fB;rw[Wzj,Wzy];omega
  have bo:105+(wrL ss).length+(fB (bs.drop (k+1))).length=(fB (bs.drop k)).length:=by
   have bq:(wrL ss).length<=(bkS (wrL ss)).length:=(by unfold bkS;rw[Wzy];omega);have h1:(bkS (wrL ss)).length+(fB (bs.drop (k+1))).length=(fB (bs.drop k)).length:=(by rw[ap,Wzy]);have h2:(bkS (wrL ss)).length=105+(wrL ss).length:=(by unfold bkS;rw[Wzy,xW _ (by omega)]);omega
  have bh:StG (aT I) (ss.map cnS):=by
   rw[aO];have:=hg;rw[az,Wxu,YW,Wxu,YW] at this;exact this.2.1
  have bj:(bs.take k).flatten.length+ss.length<=80000:=by
   have:=congrArg List.length az;simp only[Wzy] at this;omega
  have bf:PB W J K (bkS (wrL ss)++(fB (bs.drop (k+1))++A)):=by
   rw[<-Wy8,<-ap];exact aR.tf (fun q hq=>hW.block _ (aF q hq)) hW.size
  have:=Gy S G G _ I J K ss (fB (bs.drop (k+1))++A) W bg bf (fun p hp=>by have:=aF p hp;have:=hW.size;have:=Y.out;omega) (aZ ss aW) bh bj (by omega) (by rw[Wzy];have:=av.len;omega) (ac.out W hW).1 (ac.out W hW).2.1 (ac.out W hW).2.2.1 (ac.out W hW).2.2.2.1;rw[<-Wy8,<-ap] at this;refine this.mono ?_
  rintro e W' ⟨Tj,rfl,h1,h2,h3⟩;refine⟨Tj,_,_,rfl,hW.trans h3.b,by rw[aV,Wzy];exact h1,by rw[h2,aO,aV,Wxu,I5],?_,fun p hp=>?_⟩
  ·have hf:=aR.from (105+(wrL ss).length) (by rw[Wzy];omega);rw[ap,Wy8,Wxq (by unfold bkS;rw[Wzy,xW _ (by omega)];omega),Wxx (by unfold bkS;rw[Wzy,xW _ (by omega)];omega),WyX] at hf;exact hf
  obtain⟨q,hq,e⟩:=zzu hp;rw[e];exact aF q hq
 obtain⟨N,HN⟩:=nm_ bs.length;have aQ:0<N:=by rw[<-HN.out];exact WzX.2 au
 obtain⟨LF,Z⟩:∃ LF:Nat->Nat,Hid (∀ k,(fB (bs.drop k)++A).length=LF k):=⟨_,hid fun _=>rfl⟩;simp only[Z.out] at aB;have j:=aB.out 0 W1 (fun _=>none) a c (by rw[HN.out];exact aQ) ao aM.out b6.out hP (fun p hp=>by rw[<-Y.out];exact b2 p hp);have aw:=hid aA;have ax:Hid (∀ k,(fB (bs.drop k)++A).length<=550000000):=fun k=>by
  rw[Wzy];have:=av.len;have:(fB (bs.drop k)).length<=(fB bs).length:=by
   conv=>rhs;rw[<-WxZ k bs]
   unfold fB;rw[Wzj,Wzy];omega
  omega
 have ay:Hid (∀ k,k<N->0<(fB (bs.drop k)++A).length):=fun k hk=>by
  have bi:k<bs.length:=by rw[HN.out];exact hk
  rw[WqJ bi];unfold fB;rw[List.flatMap_cons,Wzy,Wzy];have:0<(bkS (wrL bs[k])).length:=by unfold bkS hdS slS;simp;omega
  omega
 have b9:Hid (A ≠ []->∀ (W:World) (J:Option Addr) (K:Nat) (p:Addr),Below G w W->W.cell? ⟨1,0,none⟩=some (.iface 335 (.pointer (some p)))->PB w J K A->(∀ p:Addr,J=some p->p.block<G)->Calls prog 79 #[.map (some G),.slice J A.length K] W fun e W'=>e=.returned (.tuple #[.slice none 0 0,.iface 335 (.pointer (some p))])/\Below W.heap.size W W'):=fun au W J K p hW hc ag bk=>by
  rcases av with h | ⟨ls,m,rfl,h0,h1,h2⟩
  ·exact absurd h au
  have ar:((bkS ls).take m).length=m:=by rw[WzJ];unfold bkS;rw[Wzy,xW _ (by omega)];omega
  rw[ar];exact zzy G J K ls m W 335 _ hc (by omega) h0 h1 (ag.tf (fun q hq=>hW.block _ (bk q hq)) hW.size)
 simp only[Z.out] at ax ay;simp only[Nat.zero_add] at j;rw[<-Z.out 0,List.drop_zero] at j;obtain⟨M,hM⟩:∃ M,(fB bs++A).length=M:=⟨_,rfl⟩;rw[hM] at j ⊢;obtain⟨bt,O⟩:∃ b,decide (A=[])=b:=⟨_,rfl⟩;have aI:=hid O;rw[O];clear hP b2 aZ hg hn hl aA ht aU aY aS Q au hM av O;go_enter func38,ntmps38;go_wp2_with (first
  | (refine z8 rfl _ (WQ rfl aX) ?_;go_frame)
  | (go_at_call 79;refine j.mono ?_;rintro e w1 ⟨Tj,a2,c2,rfl,q1,q2,q3,q4,q5⟩;have Q1:=hid q1;have Q2:=hid q2;have Q3:=hid q3;have Q4:=hid q4;have Q5:=hid q5;clear q1 q2 q3 q4 q5 j))
 go_loopg [0,4] N (fun q bv ev wr=>(∃ (k:Nat) (I:Ts) (J:Option Addr) (K:Nat),bv=.slice J (LF k) K/\ev=.nilIface/\q=N+1-k/\k<=N/\Hid (Below G w wr)/\Hid (To S G wr G ((bs.take k).flatten.length) I)/\Hid (aT I=stF noT ((bs.take k).flatten.map cnS))/\Hid (PB w J K (fB (bs.drop k)++A))/\Hid (∀ p:Addr,J=some p->p.block<G)) ∨ (∃ (I:Ts) (p:Addr),bv=.slice none 0 0/\ev=.iface 335 (.pointer (some p))/\q=0/\Hid (A ≠ [])/\Hid (Below G w wr)/\Hid (To S G wr G bs.flatten.length I)/\Hid (aT I=stF noT (bs.flatten.map cnS))/\wr.cell? ⟨1,0,none⟩=some (.iface 335 (.pointer (some p)))))
 case atStart=>exact .inl ⟨1,Tj,a2,c2,rfl,rfl,rfl,aQ,Q1,Q2,Q3,Q4,Q5⟩
 rcases hrel with ⟨k,I,J,K,rfl,rfl,hq,bp,HB,ad,a7,aL,aK⟩ | ⟨I,p,rfl,rfl,hq,aC,HB,ad,a7,Q⟩;rotate_left
 ·have am:=quY p wr;have O:bt=false:=by rw[<-aI.out];exact decide_eq_false aC.out
  subst O;have ak:=canM S G _ I wr ad.out.tt (by rw[a7.out];exact aw.out);have a8:Hid (∀ w2,Below wr.heap.size wr w2->BW S false bs.flatten.length (stF noT (bs.flatten.map cnS)) w (.returned (.tuple #[.map (some G),.bool false,.nilIface])) w2):=fun w2 h2=>by
   refine⟨G,I,rfl,?_,a7.out,?_⟩
   ·rw[Y.out];exact ad.out.below h2
   rw[Y.out];exact HB.out.trans (h2.mono (by have:=HB.out.size;have:=Y.out;omega))
  go_wp2_with (first
   | (go_at_call 34;refine am.mono ?_;rintro e w' ⟨rfl,hw⟩;have aH:=hw.symm;subst aH;clear hw am)
   | (go_at_call 80;refine ak.mono ?_;rintro e w2 ⟨rfl,aj⟩;have F2:=hid (a8.out w2 aj);clear aj ak))
  exact bodyPost_ret (results_tmp3 results38 _ _ _) rfl F2.out
 obtain⟨L,hL⟩:∃ L,LF k=L:=⟨_,rfl⟩;have bn:L<=550000000:=by rw[<-hL];exact ax.out k
 by_cases ar:k<N
 ·have aE:0<L:=by rw[<-hL];exact ay.out k ar
  have be:(0:Int)<(L:Int):=by omega
  have V:=aB.out k wr I J K (by rw[HN.out];exact ar) HB.out ad.out a7.out aL.out aK.out;rw[hL] at V ⊢;clear hL;go_wp2_with (go_at_call 79;refine V.mono ?_;rintro e w1 ⟨Tj,a2,c2,rfl,q1,q2,q3,q4,q5⟩;have Q1:=hid q1;have Q2:=hid q2;have Q3:=hid q3;have Q4:=hid q4;have Q5:=hid q5;clear q1 q2 q3 q4 q5 V)
  go_roundg (N+1-(k+1));case measure=>omega
  case rel=>exact .inl ⟨k+1,Tj,a2,c2,rfl,rfl,rfl,by omega,Q1,Q2,Q3,Q4,Q5⟩
 obtain rfl:k=N:=by omega
 have aN:Hid (bs.take k=bs):=hid (Wq0 (by rw[HN.out];exact Wz8 _));have ae:aT I=stF noT (bs.flatten.map cnS):=by rw[a7.out,aN.out]
 have ah:To S G wr G bs.flatten.length I:=by have:=ad.out;rw[aN.out] at this;exact this
 have a6:fB (bs.drop k)++A=A:=by rw[Wxx (by rw[HN.out];exact Wz8 _)];rfl
 obtain⟨pc,Q⟩:=(ac.out wr HB.out).2.2.2.2;by_cases D:A=[]
 ·have aE:L=0:=by rw[<-hL,<-Z.out,a6,D];rfl
  subst aE;rw[hL];have am:=Rj 335 (.pointer (some pc)) wr;have O:bt=true:=by rw[<-aI.out,D];rfl
  subst O;have ak:=canM S G _ I wr ah.tt (by rw[ae];exact aw.out);have a8:Hid (∀ w2,Below wr.heap.size wr w2->BW S true bs.flatten.length (stF noT (bs.flatten.map cnS)) w (.returned (.tuple #[.map (some G),.bool true,.nilIface])) w2):=fun w2 h2=>by
   refine⟨G,I,rfl,?_,ae,?_⟩
   ·rw[Y.out];exact ah.below h2
   rw[Y.out];exact HB.out.trans (h2.mono (by have:=HB.out.size;have:=Y.out;omega))
  clear hL ae ah a6 D;go_wp2_with (first
   | (go_at_call 34;refine am.mono ?_;rintro e w' ⟨rfl,hw⟩;have aH:=hw.symm;subst aH;clear hw am)
   | (go_at_call 80;refine ak.mono ?_;rintro e w2 ⟨rfl,aj⟩;have F2:=hid (a8.out w2 aj);clear aj ak))
  exact bodyPost_ret (results_tmp3 results38 _ _ _) rfl F2.out
 have aE:0<L:=by rw[<-hL,<-Z.out,a6];exact WzX.2 D
 have be:(0:Int)<(L:Int):=by omega
 have ag:=aL.out;have aP:A.length=L:=by rw[<-hL,<-Z.out,a6]
 rw[a6] at ag;have V:=b9.out D wr J K pc HB.out Q ag aK.out;rw[aP] at V;rw[hL];have aC:=hid D;have b8:=hid ah;have b7:=hid ae;have aJ:=hid Q;clear hL ae ah a6 D ag Q aP;go_wp2_with (go_at_call 79;refine V.mono ?_;rintro e w1 ⟨rfl,ao⟩;have B1:=hid ao;clear ao V)
 go_roundg 0;case measure=>omega
 case rel=>exact .inr ⟨I,pc,rfl,rfl,rfl,aC,hid (HB.out.trans (B1.out.mono (by have:=HB.out.size;have:=Y.out;omega))),hid (b8.out.below B1.out),b7,(B1.out.cell (p:=⟨1,0,none⟩) (Nm.cell_lt aJ.out)).trans aJ.out⟩
end Go.Proofs.YtdnphaganajejaaGreatDoor.K
