import Derived.Test.YtdnphaganajejaaGreatDoorMz19
import Derived.Test.YtdnphaganajejaaGreatDoorMz22
import Derived.Test.YtdnphaganajejaaGreatDoorMz23
set_option linter.unusedSectionVars false
set_option linter.unusedSimpArgs false
set_option linter.unusedVariables false
set_option maxRecDepth 20000
set_option maxHeartbeats 4000000
open Array renaming toArray_toList->Wx4
open ByteArray renaming size->Wqz
open List renaming append_assoc->Wy8,drop_append_of_le_length->Wxq,drop_of_length_le->Wxx,length_append->Wzy,length_cons->Wzu,length_nil->WzQ,nil_append->WyX,replicate->Wz7,take_append_of_le_length->Wxj,take_left->Wxk,take_of_length_le->Wq0
open Nat renaming le_refl->Wz8,le_trans->Wz9,lt_of_lt_of_le->Wq2
namespace Go.Proofs.YtdnphaganajejaaGreatDoor.K
open Go.Proofs.Tryz
open Go.RowKit
theorem results80:f80.results=#[.tmp 2]:=by kernel_rfl
theorem zv9 (S:Nat->Prop) (t n:Nat) (T:Ts) (w:World) (h:Tt S w t n T) (ha:∀ x r,T x=some r->∀ b ∈ x,b<128) (hk:∀ x r,T x=some r->r.tg=[]->r.id ≠ zZ) (hc:¬ clA (dT T)) :
  Calls prog 80 #[.map (some t)] w fun e w'=>e=.returned (.bool true)/\Below w.heap.size w w':=by
 obtain⟨G,HG⟩:=nm_ w.heap.size;obtain⟨w2,c0,ap,Y,ao,aA⟩:=h.tm.range xX;rw[HG.out] at ap Y;have ar:Hid (Below G w w2):=hid (by rw[<-HG.out];exact Tb ao);have aw:=hid Y;have H:=hid h;have HA:=hid ha;have HK:=hid hk;have au:=hid hc;rw[HG.out];clear h ha Y ao aA hk hc;go_enter func80,ntmps80
 go_wp2_with (at_range;refine z8 rfl _ (vv rfl rfl ap) ?_;go_frame)
 go_loopg [4] c0 (fun q _ wr=>∃ (c:Nat) (L:Str->Bool),q=c/\Hid (TR (rV r0) wr t G n (vT T) L c)/\Hid (Below G w wr));case atStart=>exact⟨c0,_,rfl,aw,ar⟩
 obtain⟨c,L,hq,V,HB⟩:=hrel;rcases V.out.next 0 with ⟨rfl,aj,hr⟩ | ⟨x,v,w3,c2,hL,hM,hr,Z,hc,a7,ad,am⟩
 ·have ay:=Yz S t n T wr (H.out.below (by rw[HG.out];exact HB.out)) HA.out;clear aj;go_wp2_with (first
   | (at_next;refine z8 rfl _ (qW rfl rfl hr) ?_;go_frame)
   | (go_at_call 50;refine ay.mono ?_;rintro e w7 ⟨b,rfl,k1,k2⟩;have K2:Hid (Below G w w7):=hid (HB.out.trans (k2.mono (by have:=HB.out.size;have:=HG.out;omega)));obtain rfl:b=false:=(by cases b with | false=>rfl | true=>exact absurd (k1.1 rfl) au.out);clear k1 k2))
  exact bodyPost_ret (results_tmp results80 _ _ _) rfl ⟨rfl,K2.out⟩
 obtain⟨rr,M,rfl⟩:=Rz hM;have J:=H.out.at_ x rr M;obtain⟨A,D⟩:=ra rr J.id.1;have a6:Below G w w3:=HB.out.grown a7 (by have:=V.out.lt.1;omega) (fun q hq=>by cases hq;exact Wz8 _);obtain⟨w4,K⟩:∃ w4,w3.alloc (.cells A 129)=w4:=⟨_,rfl⟩;have ak:w4.cell? ⟨w3.heap.size,20,none⟩=some (sV rr.tg):=by rw[<-K];exact(vZ D.out J.id.1 w3).1
 have a8:w4.heap[w3.heap.size]? = some (.cells A 129):=by rw[<-K];exact heap_alloc_new _ _
 have ax:G<w3.heap.size:=by rw[ad];exact V.out.lt.1
 have aB:t<w3.heap.size:=by have:=H.out.tm.lt;have:=HG.out;omega
 have I:Below w3.heap.size w3 w4:=by rw[<-K];exact(Below.refl _ _).alloc (Wz8 _) _
 have ae:Hid (Below G w w4):=hid (a6.trans (I.mono (by omega)));have ah:Hid (TR (rV r0) w4 t G n (vT T) (fun y=>L y && decide (y ≠ x)) c2):=hid (Z.kept (I.block t aB) (I.block G ax));obtain⟨R,HI⟩:=ri rr.id J.id.1;have av:Hid (w4.rangeAt w3.heap.size 0 R.toList):=fun j v hv=>by
  have h1:w4.heap[w3.heap.size]? = some (.cells A.toList.toArray 129):=by rw[Wx4];exact a8
  refine zw h1 j v ?_;have e:=D.out.e;unfold rV at e;injection e with e;rw[<-e];rw[<-HI.out.e] at hv;simp only[List.toList_toArray] at hv ⊢;rw[List.getElem?_append_left (List.getElem?_eq_some_iff.1 hv).1];exact hv
 have ag:Hid ((prog.info? 116).map (·.size)=some R.toList.length):=hid (by simpa using HI.out.i);obtain⟨tg,O⟩:∃ s,rr.tg=s:=⟨_,rfl⟩;rw[D.out.e] at hr am;rw[O] at ak;unfold sV at hr am ak;by_cases h0:tg=[]
 ·have ac:=HK.out x rr M (by rw[O,h0]);have az:∀ W:World,(Op.equalIn 10000 116 (.agg R) (.agg z89)).run prog W=.ok false W:=fun W=>by rw[<-Fy,<-HI.out.e,KZ 116 Y8 _ _ J.id.1 rfl W,decide_eq_false ac]
  subst h0;unfold z89 at az;clear hL hM Z a7 ad a6 I M J O ac a8;go_wp2_with (first
   | (at_next;refine z8 rfl _ (qW rfl rfl hr) ?_;go_frame)
   | (refine zq rfl 129 (.tmp 4) (.tmp 10) rfl _ A rfl rfl D.out.i D.out.z D.out.o ?_;rw[K];go_frame)
   | (refine BigFrame.wpList_want (by rfl) (fun KK ai=>?_);refine wp_load_mid 116 _ rfl w3.heap.size 0 rfl R.toList _ av.out underlying116 rfl ag.out ?_;refine ai _ _ ?_;clear ai KK;simp only[Wx4]))
  go_roundg c2;case measure=>omega
  case rel=>exact⟨c2,_,rfl,ah,ae⟩
 have ac:(tg == [])=false:=by simpa using h0
 clear hL hM Z a7 ad a6 I M J O a8;go_wp2_with (first
  | (at_next;refine z8 rfl _ (qW rfl rfl hr) ?_;go_frame)
  | (refine zq rfl 129 (.tmp 4) (.tmp 10) rfl _ A rfl rfl D.out.i D.out.z D.out.o ?_;rw[K];go_frame))
 go_roundg c2;case measure=>omega
 case rel=>exact⟨c2,_,rfl,ah,ae⟩
section
variable {P : Program} {md : Region.Mode} {Q : Exit → Act → World → Prop} {S : World → Prop} {l : List Oper} {i : Nat} {oi : Oper} {fuel : Nat} {listed : Array Bool} {a : Act} {w : World}
theorem I0 (j:S w)
  (h:wpAnyH P md l.toArray Q S fuel (listed.setIfInBounds i true) (a.put oi.dst undef) w) (hx:listed.toList.findIdx? (fun b => !b)=some i:=by rfl) (hi:l[i]? = some oi:=by rfl)
  (hs:Region.noSelect l.toArray=true:=by kernel_rfl) (A:Region.free md l.toArray listed i=true:=by kernel_rfl) (hr:(Region.ready md l.toArray listed).contains i=true:=by kernel_rfl) (hQ:∀ c a w,Q (.panic c) (a.put oi.dst undef) w->Q (.panic c) a w:=by exact fun _ _ _ h=>h) (D:Region.wanted oi (yielded l.toArray a.tmps)=false:=by rfl) :
  wpAnyH P md l.toArray Q S (fuel+1) listed a w:=j8 hi hs A hr hQ (Or.inr ⟨D,rfl⟩) j h
theorem vk (i:Nat) (f:FuncId) (args:List Operand) (vs:List Value) {ts:Array TypeId} {R:Ending->World->Prop} (hc:Calls P f vs.toArray w R)
  (h:∀ e w',R e w'->∃ r,e=.returned r/\S w'/\(S w'->wpAnyH P md l.toArray Q S fuel (listed.setIfInBounds i true) (a.put oi.dst r) w'))
  (hi:l[i]? = some oi:=by rfl) (hr:Region.ready md l.toArray listed=[i]:=by kernel_rfl) (I:oi.guard=none:=by rfl) (K:oi.op=.call { callee:=.value (.func f),args:=args.toArray,argTypes:=ts }:=by rfl) (hx:args.map a.eval=vs:=by rfl) (j:∀ w:World,(callFunc f vs.toArray).run P w=.ok (.enter f vs.toArray) w:=by intro w;kernel_rfl) :
  wpAnyH P md l.toArray Q S (fuel+1) listed a w:=by
 refine wpAnyH_ready (rs:=[i]) hr (by simp) ?_;refine xw hi (fun KK A=>?_) AllReadyH.nil;refine qY I f args ts vs R K hx j hc ?_;intro e w' D;obtain⟨r,e1,G,J⟩:=h e w' D;exact⟨r,e1,A.out _ _ G J⟩
theorem quX (i:Nat) (v:Value) {w':World} (hv:(execOp a.eval oi).run P w=.ok (.value v) w') (A:S w')
  (h:S w'->wpAnyH P md l.toArray Q S fuel (listed.setIfInBounds i true) (a.put oi.dst v) w')
  (hi:l[i]? = some oi:=by rfl) (hr:Region.ready md l.toArray listed=[i]:=by kernel_rfl) (D:oi.guard=none:=by rfl) :
  wpAnyH P md l.toArray Q S (fuel+1) listed a w:=by
 refine wpAnyH_ready (rs:=[i]) hr (by simp) ?_;refine xw hi (fun KK j=>?_) AllReadyH.nil;exact jX D v hv (j.out _ _ A h)
end
theorem results117:f117.results=#[.tmp 2]:=by kernel_rfl
theorem results91:f91.results=#[.tmp 2]:=by kernel_rfl
theorem qq9 (l:List Int):IsB (sha l):=by
 intro n h;unfold sha jy at h;obtain⟨i,_,rfl⟩:=List.mem_map.1 h;split
 ·exact⟨Int.emod_nonneg _ (by decide),Int.emod_lt_of_pos _ (by decide)⟩
 exact⟨by decide,by decide⟩
theorem I1 (l:List Int):IdW (sha l):=⟨YJ l,qq9 l⟩
theorem zvz (a:Option Addr) (c:Nat) (s:Str) (w:World) (h:PB w a c s) (D:s.length<=300000000):Calls prog 116 #[.slice a s.length c] w fun e w'=>e=.returned (.agg (row .u8 (sha (nm s))).toArray)/\Below w.heap.size w w':=by
 have j:=sum6 a c (nm s) w (by rw[x9];exact D) (qux s) (fun h0=>by
  rw[x9] at h0;obtain⟨b,off,e1,A,_⟩:=h.at_ h0;subst e1;refine⟨b,off,rfl,A,fun i hi=>?_,by rw[x9];exact h.capl⟩;rw[x9] at hi;rw[PB.cell h i hi];simp[nm,List.getD_eq_getElem?_getD,List.getElem?_eq_getElem hi])
 rw[x9] at j;exact j
theorem qqz (k:Nat) (A:k<=1000) (w:World):Calls prog 114 #[.string ⟨#[48]⟩,.int .i64 k] w fun e w'=>e=.returned (.string ⟨(Wz7 k (48:UInt8)).toArray⟩)/\Below w.heap.size w w':=by
 have h:=Any.strings_Repeat lays105 Builder_Extra_105 ⟨#[48]⟩ k w (by omega) (by show 1*k<=_;omega);have e:∀ k,Lib.repeatL [48] k=Wz7 k (48:UInt8):=by
  intro k;induction k with
  | zero=>rfl
  | succ k j=>show [48]++Lib.repeatL [48] k=_;rw[j];rfl
 rw[show (⟨#[48]⟩:ByteArray).data.toList=[48] from rfl,e] at h;exact h
def slS (x:Str):Str:=x++32 :: (yV (sha (nm x))++[10])
theorem XX (x:Str) (hx:x.length<=1000) (w:World):Calls prog 117 #[sV x] w fun e w'=>e=.returned (sV (slS x))/\Below w.heap.size w w':=by
 obtain⟨cap,w1,K,L,G⟩:=RQ x w;have A:=zvz _ cap x w1 L.pb (by omega);have j:=fun W=>W8 (sha (nm x)) (I1 _) W;obtain⟨n,Z⟩:∃ n,x.length=n:=⟨_,rfl⟩;rw[Z] at K A;obtain⟨R,Y⟩:∃ R,(row .u8 (sha (nm x))).toArray=R:=⟨_,rfl⟩;rw[Y] at A j;obtain⟨H,O⟩:=nm_ (⟨(yV (sha (nm x))).toArray⟩:ByteArray)
 have hH:H.size=40:=by rw[<-O.out];simp[Wqz,xj,YJ]
 obtain⟨S,V⟩:=nm_ (⟨x.toArray⟩:ByteArray);have hS:S.size=n:=by rw[<-V.out,<-Z];simp[Wqz]
 rw[O.out] at j;have HF:Hid (sV (slS x)=.string (((S ++ ⟨#[32]⟩)++H) ++ ⟨#[10]⟩)):=hid (by
  rw[<-V.out,<-O.out,show (⟨#[32]⟩:ByteArray)=⟨[32].toArray⟩ from rfl,show (⟨#[10]⟩:ByteArray)=⟨[10].toArray⟩ from rfl,yZ,yZ,yZ];unfold sV slS;simp)
 rw[HF.out];unfold sV;rw[V.out] at K ⊢;have h:=hid G;clear L G Y;go_enter func117,ntmps117;go_wp2_with (first
  | (go_at_call 116;refine A.mono ?_;rintro e w2 ⟨rfl,I⟩;have D:=hid I;clear I)
  | (go_at_call 115;refine(j _).mono ?_;rintro e w3 ⟨rfl,J⟩;have M:=hid J;clear J))
 exact bodyPost_ret (results_tmp results117 _ _ _) rfl ⟨rfl,(h.out.trans (D.out.mono h.out.size)).trans (M.out.mono (Wz9 h.out.size D.out.size))⟩
def wdS (ls:Str):Str:=[98,108,111,99,107,32]++(h16 ls.length++32 :: yV (sha (nm ls)))
def hdS (ls:Str):Str:=slS (wdS ls)
def bkS (ls:Str):Str:=hdS ls++ls
theorem kV (ls:Str) (h:ls.length<4294967296):(wdS ls).length=63:=by
 unfold wdS;simp only[Wzy,Wzu,WzQ,(k8 _ h).1,xj,YJ]
theorem qqq (x:Str):(slS x).length=x.length+42:=by
 unfold slS;simp only[Wzy,Wzu,WzQ,xj,YJ]
theorem xW (ls:Str) (h:ls.length<4294967296):(hdS ls).length=105:=by unfold hdS;rw[qqq,kV ls h]
theorem quJ:(⟨#[98,108,111,99,107,32]⟩:ByteArray).size=6:=rfl
def zvq (ls:Str) (w:World) (e:Ending) (w':World):Prop := ∃ g cap,e=.returned (.slice (some ⟨g,0,none⟩) (bkS ls).length cap)/\Mk w' g cap (bkS ls)/\w.heap.size<=g/\Below w.heap.size w w'
theorem Nv (a:Option Addr) (c:Nat) (ls:Str) (w:World) (hP:PB w a c ls) (hl:ls.length<=290000000) (ap:Db w):Calls prog 91 #[.slice a ls.length c] w (zvq ls w):=by
 obtain⟨G,M⟩:=nm_ w.heap.size;obtain⟨n,hn⟩:∃ n,ls.length=n:=⟨_,rfl⟩;have aG:n<=290000000:=by rw[<-hn];exact hl
 have hf:=quk n (by omega) w ap;have av:(16:Nat) ^ (7+1)=4294967296:=by decide
 have hL:(x16 n).length<=8:=J2 7 n (by rw[av];omega);clear av;obtain⟨k,hk⟩:∃ k,(x16 n).length+k=16:=⟨16-(x16 n).length,by omega⟩;obtain⟨Z,HZ⟩:=nm_ (⟨(x16 n).toArray⟩:ByteArray);obtain⟨L,HL⟩:=nm_ ((x16 n).length);have hZ:Z.size=L:=by rw[<-HZ.out,<-HL.out];simp[Wqz]
 rw[HL.out] at hk hL;rw[HZ.out] at hf;have aF:(16:Int)-(L:Int)=(k:Int):=by omega
 have ax:=fun W=>qqz k (by omega) W;obtain⟨O,HO⟩:=nm_ (⟨(Wz7 k (48:UInt8)).toArray⟩:ByteArray);have hO:O.size=k:=by rw[<-HO.out];simp[Wqz]
 rw[HO.out] at ax;have ad:Hid (∀ W,Below G w W->Calls prog 116 #[.slice a n c] W fun e w'=>e=.returned (.agg (row .u8 (sha (nm ls))).toArray)/\Below W.heap.size W w'):=fun W hW=>by
  have:=zvz a c ls W (hP.below (by rw[M.out];exact hW)) (by omega);rw[hn] at this;exact this
 have a7:=fun W=>W8 (sha (nm ls)) (I1 _) W;obtain⟨R,hR⟩:∃ R,(row .u8 (sha (nm ls))).toArray=R:=⟨_,rfl⟩;rw[hR] at ad a7;obtain⟨H,HH⟩:=nm_ (⟨(yV (sha (nm ls))).toArray⟩:ByteArray);have hH:H.size=40:=by rw[<-HH.out];simp[Wqz,xj,YJ]
 rw[HH.out] at a7;have J:=fun W=>XX (wdS ls) (by rw[kV ls (by omega)];omega) W;have ae:Hid (sV (wdS ls)=.string (((((⟨#[98,108,111,99,107,32]⟩:ByteArray)++O)++Z) ++ ⟨#[32]⟩)++H)):=hid (by
  rw[<-HO.out,<-HZ.out,<-HH.out,show (⟨#[32]⟩:ByteArray)=⟨[32].toArray⟩ from rfl,show (⟨#[98,108,111,99,107,32]⟩:ByteArray)=⟨[98,108,111,99,107,32].toArray⟩ from rfl,yZ,yZ,yZ,yZ];unfold sV wdS h16;rw[hn,show 16-(x16 n).length=k by have:=HL.out;omega];simp)
 rw[ae.out] at J;have Y:=fun W=>RQ (hdS ls) W;have ah:sV (slS (wdS ls))=sV (hdS ls):=rfl;rw[ah] at J;obtain⟨D,HD⟩:=nm_ (⟨(hdS ls).toArray⟩:ByteArray);unfold sV at J;rw[HD.out] at J Y;have az:=hid Y;have ac:Hid (∀ W,Below G w W->PB W a c ls):=fun W hW=>hP.below (by rw[M.out];exact hW);have HN:=hid hn;have aH:=quJ
 have ay:Hid (∀ (W W2:World) (cap:Nat),Below G w W->G<=W.heap.size->Mk W2 W.heap.size cap (hdS ls)->Below W.heap.size W W2->∃ v w',(Builtin.append_ #[82,82] 82 #[.slice (some ⟨W.heap.size,0,none⟩) (hdS ls).length cap,.slice a n c]).run prog W2=.ok v w'/\zvq ls w (.returned v) w'):=fun W W2 cap hW A hM h2=>by
  have I:Below G w W2:=hW.trans (h2.mono A);obtain⟨v,w',hr,g',ag,e1,aD,a6,aC⟩:=quy W2 W.heap.size cap (hdS ls) ls a c hM (ac.out _ I) (by rw[xW ls (by rw[HN.out];omega)];omega);rw[HN.out] at hr;refine⟨v,w',hr,g',ag,by rw[e1];rfl,aD,?_,?_⟩
  ·rw[M.out];rcases a6 with rfl | a6
   ·exact A
   exact Wz9 (Wz9 A h2.size) a6
  rw[M.out];exact I.grown aC (Wz9 A h2.size) (fun k hk=>by cases hk;exact A)
 rw[hn];clear hP hl hn hR ae ah Y ac ap;go_enter func91,ntmps91;go_wp2_with (first
  | (go_at_call 113;refine hf.mono ?_;rintro e w1 ⟨rfl,ai⟩;have h:=hid ai;clear ai)
  | (go_at_call 114;refine(ax _).mono ?_;rintro e w2 ⟨rfl,I⟩;have j:=hid I;clear I)
  | (go_at_call 116;refine(ad.out _ (by rw[<-M.out];exact h.out.trans (j.out.mono h.out.size))).mono ?_;rintro e w3 ⟨rfl,aj⟩;have K:=hid aj;clear aj)
  | (go_at_call 115;refine(a7 _).mono ?_;rintro e w4 ⟨rfl,ak⟩;have a8:=hid ak;clear ak)
  | (go_at_call 117;refine(J _).mono ?_;rintro e w5 ⟨rfl,am⟩;obtain⟨cap,w6,aE,ar,ao⟩:=az.out w5;have V:=(((h.out.trans (j.out.mono h.out.size)).trans (K.out.mono (Wz9 h.out.size j.out.size))).trans (a8.out.mono (Wz9 (Wz9 h.out.size j.out.size) K.out.size))).trans (am.mono (Wz9 (Wz9 (Wz9 h.out.size j.out.size) K.out.size) a8.out.size));obtain⟨v7,w7,aw,au⟩:=ay.out w5 w6 cap (by rw[<-M.out];exact V) (by rw[<-M.out];exact V.size) ar ao;have aA:=hid au;have aB:=hid aw;clear au aw ar ao V am)
  | (at_builtin;refine z8 rfl _ (KV 82 82 (.tmp 22) (.tmp 23) rfl _ (.slice a n c) v7 rfl rfl aB.out) ?_;go_frame))
 exact bodyPost_ret (results_tmp results91 _ _ _) rfl aA.out
theorem results109:f109.results=#[.tmp 2,.tmp 3,.tmp 4]:=by kernel_rfl
theorem Wv (b off n cap j:Nat) (h:j<=cap) (w:World):(Instr.slice 82 (.slice (some ⟨b,off,none⟩) n cap) none (some (.int .i64 j)) none).run prog w=.ok (.slice (some ⟨b,off,none⟩) j cap) w:=by
 rw[run_slice_h w 82 _ n cap By .i64 j (by omega) (by omega),RZ,Result.andThen_ok];simp[sliced,x7]
theorem Ww (s:List UInt8) (i:Nat) (h:i<=s.length) (w:World):(Instr.slice 9 (.string ⟨s.toArray⟩) (some (.int .i64 i)) none none).run prog w=.ok (.string ⟨(s.drop i).toArray⟩) w:=by
 rw[run_slice_string_from_if w 9 _ .i64 i underlying9,if_pos ⟨by omega,by rw[Nm.txt_len];omega⟩,Int.toNat_natCast,Nm.ext_txt,Nm.txt_len,Wq0 (by simp)]
theorem qqx (a:Option Addr) (c:Nat) (ls rest:Str) (w:World) (hP:PB w a c (bkS ls++rest)) (hl:ls.length<=290000000) (hr:rest.length<=600000000) (aC:Db w) :
  Calls prog 109 #[.slice a (bkS ls++rest).length c] w fun e w'=>e=.returned (.tuple #[.slice (adX 1 a c 105) ls.length (c-105:Nat),.slice (adX 1 a c (105+ls.length)) rest.length (c-(105+ls.length):Nat),.nilIface])/\Below w.heap.size w w':=by
 obtain⟨G,HG⟩:=nm_ w.heap.size;have ae:(hdS ls).length=105:=xW ls (by omega);have ad:(bkS ls).length=105+ls.length:=by unfold bkS;rw[Wzy,ae]
 obtain⟨n,hn⟩:∃ n,ls.length=n:=⟨_,rfl⟩;obtain⟨m,hm⟩:∃ m,rest.length=m:=⟨_,rfl⟩;have hlen:(bkS ls++rest).length=105+n+m:=by rw[Wzy,ad,hn,hm]
 have aW:105+n+m<=c:=by rw[<-hlen];exact hP.capl
 have b6:n<=290000000:=by omega
 have b2:m<=600000000:=by omega
 have h6:=hP.take 6;have au:((bkS ls++rest).take 6)=[98,108,111,99,107,32]:=by
  unfold bkS hdS slS wdS;rfl
 rw[au] at h6;have aB:=jq h6;have I:=hP.take 105;have J:((bkS ls++rest).take 105)=hdS ls:=by
  unfold bkS;rw[Wy8,Wxj (by omega),Wq0 (by omega)]
 rw[J] at I;have A:=jq I;rw[ae] at A;obtain⟨D,HD⟩:=nm_ (⟨(hdS ls).toArray⟩:ByteArray);have a8:(hdS ls).take 63=wdS ls:=by
  unfold hdS slS;rw[Wxj (by rw[kV ls (by omega)];omega),Wq0 (by rw[kV ls (by omega)];omega)]
 have Y:((hdS ls).drop 6).take 16=h16 n:=by
  unfold hdS slS wdS;rw[hn];show ((h16 n++32 :: yV (sha (nm ls)))++_).take 16=_;rw[Wy8,Wxj (by rw[(k8 n (by omega)).1];omega),Wq0 (by rw[(k8 n (by omega)).1];omega)]
 obtain⟨ok1,ok2,aj⟩:=k8 n (by omega);have s1:∀ W:World,(Instr.slice 9 (.string D) (some (.int .i64 6)) none none).run prog W=.ok (.string ⟨((hdS ls).drop 6).toArray⟩) W:=fun W=>by rw[<-HD.out];exact Ww (hdS ls) 6 (by omega) W
 have s2:∀ W:World,(Instr.slice 9 (.string ⟨((hdS ls).drop 6).toArray⟩) none (some (.int .i64 16)) none).run prog W=.ok (.string ⟨(h16 n).toArray⟩) W:=fun W=>by rw[<-Y];exact Nm.slc_to ((hdS ls).drop 6) 16 (by rw[List.length_drop];omega) W
 have s3:∀ W:World,(Instr.slice 9 (.string D) none (some (.int .i64 63)) none).run prog W=.ok (.string ⟨(wdS ls).toArray⟩) W:=fun W=>by rw[<-HD.out,<-a8];exact Nm.slc_to (hdS ls) 63 (by omega) W
 obtain⟨D6,aO⟩:=nm_ (⟨((hdS ls).drop 6).toArray⟩:ByteArray);obtain⟨Dn,am⟩:=nm_ (⟨(h16 n).toArray⟩:ByteArray);obtain⟨Dw,ao⟩:=nm_ (⟨(wdS ls).toArray⟩:ByteArray);have aG:=KW (h16 n) (fun e=>by rw[e] at ok1;simp at ok1) (by omega) ok2 (by rw[aj];omega) w;rw[aj,am.out] at aG;have V:=fun W=>XX (wdS ls) (by rw[kV ls (by omega)];omega) W
 have av:sV (slS (wdS ls))=sV (hdS ls):=rfl;rw[av] at V;unfold sV at V A aB;rw[HD.out,ao.out] at V;rw[HD.out] at A;rw[aO.out] at s1 s2;rw[am.out] at s2;rw[ao.out] at s3;have aE:=fun W=>Nm.hasPrefix_any [98,108,111,99,107,32] [98,108,111,99,107,32] W;have aH:Lib.hasPrefix [98,108,111,99,107,32] [98,108,111,99,107,32]=true:=by decide
 rw[aH] at aE;obtain⟨b,off,e1,_⟩:=hP.at_ (by omega);subst e1;have b7:=Wv b off (105+n+m) c 6 (by omega);have aV:=Wv b off (105+n+m) c 105 (by omega);have aX:min ((105:Int)+n+m) 6=6:=by omega
 have g1:¬ ((105:Int)+n+m<105):=by omega
 have g2:¬ ((n:Int) > 105+n+m-105):=by omega
 have ap:Hid (∀ W,Below G w W->PB W (some ⟨b,off,none⟩) c (bkS ls++rest)):=fun W Z=>hP.below (by rw[HG.out];exact Z);have aP:Hid (∀ W,Below G w W->Db W):=fun W Z=>aC.below (by rw[HG.out];exact Z);have a6:[98,108,111,99,107,(32:UInt8)].length=6:=rfl;rw[a6] at aB;rw[hn,hm,hlen];obtain⟨la,ag⟩:∃ x,adX 1 (some ⟨b,off,none⟩) c 105=x:=⟨_,rfl⟩
 obtain⟨lc,ah⟩:∃ x,c-105=x:=⟨_,rfl⟩;obtain⟨ra,aI⟩:∃ x,adX 1 (some ⟨b,off,none⟩) c (105+n)=x:=⟨_,rfl⟩;obtain⟨rc,aJ⟩:∃ x,c-(105+n)=x:=⟨_,rfl⟩;have b8:∀ W:World,(Instr.slice 82 (.slice (some ⟨b,off,none⟩) (105+n+m) c) (some (.int .i64 105)) (some (.int .i64 (105+(n:Int)))) none).run prog W=.ok (.slice la n lc) W:=fun W=>by
  have:=sl60 (some ⟨b,off,none⟩) (105+n+m) c 105 (105+n) (105+(n:Int)) (by push_cast;rfl) (by omega) (by omega) W;rw[show 105+n-105=n by omega,ag,ah] at this;exact this
 have b9:∀ W:World,(Instr.slice 82 (.slice (some ⟨b,off,none⟩) (105+n+m) c) none (some (.int .i64 (105+(n:Int)))) none).run prog W=.ok (.slice (some ⟨b,off,none⟩) (105+n) c) W:=fun W=>by
  have:=Wv b off (105+n+m) c (105+n) (by omega) W;rw[show ((105+n:Nat):Int)=105+(n:Int) by push_cast;rfl] at this;exact this
 have be:∀ W:World,(Instr.slice 82 (.slice (some ⟨b,off,none⟩) (105+n+m) c) (some (.int .i64 (105+(n:Int)))) none none).run prog W=.ok (.slice ra m rc) W:=fun W=>by
  have:=qxv (some ⟨b,off,none⟩) (105+n+m) c (105+n) (by omega) W;rw[show ((105+n:Nat):Int)=105+(n:Int) by push_cast;rfl,show 105+n+m-(105+n)=m by omega,aI,aJ] at this;exact this
 have ak:Hid (∀ W,Below G w W->Calls prog 91 #[.slice la n lc] W fun e w'=>Below W.heap.size W w'/\∃ g cap,e=.returned (.slice (some ⟨g,0,none⟩) (105+n) cap)/\∀ W',Below w'.heap.size w' W'->Calls prog 139 #[.slice (some ⟨g,0,none⟩) (105+n) cap,.slice (some ⟨b,off,none⟩) (105+n) c] W' fun e2 w2=>e2=.returned (.bool true)/\w2=W'):=fun W Z=>by
  have aR:=ap.out W Z;have a7:=aR.mid 105 (105+n) (by omega) (by rw[hlen];omega);have aU:((bkS ls++rest).drop 105).take (105+n-105)=ls:=by
   unfold bkS;rw[Wy8,Wxq (by omega),Wxx (by omega),WyX,show 105+n-105=ls.length by omega,Wxk]
  rw[aU,ag,ah] at a7;have aA:=Nv la lc ls W a7 (by omega) (aP.out W Z);rw[hn] at aA;refine aA.mono ?_;rintro e w' ⟨g,cap,rfl,aS,aZ,ai⟩;have L:(bkS ls).length=105+n:=by rw[ad,hn]
  refine⟨ai,g,cap,by rw[L],fun W' aw=>?_⟩;have ax:G<=W.heap.size:=by have:=Z.size;have:=HG.out;omega
  have O:Below G w W':=(Z.trans (ai.mono ax)).trans (aw.mono (Wz9 ax ai.size));have aF:=(ap.out W' O).take (105+n);have ht:(bkS ls++rest).take (105+n)=bkS ls:=by rw[<-L,Wxk]
  rw[ht] at aF;have he:=Pz _ cap (bkS ls) ((aS.below aw).pb) _ c (bkS ls) aF;rw[L,beq_self_eq_true] at he;exact he
 have aY:=hid hn;have HM:=hid hm;clear hP hl hr aC h6 au I J a8 Y ok1 ok2 aj av aH a6 ad hlen ae hn hm;go_enter func109,ntmps109;go_wp2_with (first
  | (go_at_call 66;refine(aE _).mono ?_;rintro e w1 ⟨rfl,aK⟩;obtain rfl:=aK.symm;clear aK)
  | (go_at_call 138;refine aG.mono ?_;rintro e w2 ⟨rfl,az⟩;have aM:=hid az;clear az)
  | (go_at_call 117;refine(V _).mono ?_;rintro e w3 ⟨rfl,O⟩;have aN:=hid O;clear O))
 have ar:Hid (Below G w w3):=hid (by
  have h1:=aM.out;rw[HG.out] at h1;exact h1.trans (aN.out.mono (by have:=h1.size;have:=HG.out;omega)))
 refine wp_region_held_drew (S:=fun _=>True) (by kernel_rfl) trivial (fun h=>?_);have ac:Below w3.heap.size w3 w3.drew:=zj _ _ 1;have aL:w3.drew.heap.size=w3.heap.size:=rfl;generalize w3.drew=u0 at h ac aL ⊢;iterate 3
  refine qy (v:=?_) h ?_ ?_;rotate_left
  ·intro w' _;go_simp;rfl
  try simp only[Act.put,sL]
 refine qZ (i:=4) (v:=?_) h ?_ ?_;rotate_left
 ·intro w' _;go_simp;rfl
 try simp only[Act.put,sL]
 refine qZ (i:=5) (v:=?_) h ?_ ?_;rotate_left
 ·intro w' _;go_simp;rfl
 try simp only[Act.put,sL]
 refine qZ (i:=6) (v:=?_) h ?_ ?_;rotate_left
 ·intro w' _;go_simp;rfl
 try simp only[Act.put,sL]
 have aQ:G<=w3.heap.size:=by have:=ar.out.size;have:=HG.out;omega
 have M:Below G w u0:=ar.out.trans (ac.mono aQ);refine wpAnyH_ready (rs:=[3]) (by kernel_rfl) (by simp) ?_;refine xw rfl (fun KK K=>?_) AllReadyH.nil;refine qY (by rfl) 91 [.tmp 57] _ [.slice la n lc] _ (by rfl) (by rfl) (fun w=>by kernel_rfl) (ak.out _ M) ?_;rintro e u1 ⟨ay,g,cap,rfl,aD⟩;refine⟨_,rfl,K.out _ _ trivial (fun j=>?_)⟩
 clear K KK h;have h:=j;clear j;try simp only[Act.put,sL]
 refine wpAnyH_ready (rs:=[7]) (by kernel_rfl) (by simp) ?_;refine xw rfl (fun KK K=>?_) AllReadyH.nil;refine qY (by rfl) 139 [.tmp 58,.tmp 61] _ [.slice (some ⟨g,0,none⟩) (105+n) cap,.slice (some ⟨b,off,none⟩) (105+n) c] _ (by rfl) (by rfl) (fun w=>by kernel_rfl) (aD u1 (Below.refl _ _)) ?_;rintro e u2 ⟨rfl,rfl⟩;refine⟨_,rfl,K.out _ _ trivial (fun j=>?_)⟩
 clear K KK h;have h:=j;clear j;try simp only[Act.put,sL]
 refine qy (v:=?_) h ?_ ?_;rotate_left
 ·intro w' _;go_simp;rfl
 try simp only[Act.put,sL]
 have HU:Hid (Below G w u2):=hid (M.trans (ay.mono (by omega)));clear aD h ay M ac aL;refine wpAnyH_done (by kernel_rfl) ?_ _;go_wp2;refine wp_region_held_drew (S:=fun _=>True) (by kernel_rfl) trivial (fun h=>?_);iterate 9
  refine qy (v:=?_) h ?_ ?_;rotate_left
  ·intro w' _;go_simp;rfl
  try simp only[Act.put,sL]
 refine wpAnyH_done (by kernel_rfl) ?_ _;go_wp2;refine bodyPost_ret (results_tmp3 results109 _ _ _) rfl ⟨?_,by rw[HG.out];exact⟨HU.out.os,HU.out.tape,HU.out.output,HU.out.size,HU.out.block⟩⟩;rw[ag,ah,aI,aJ];rfl
end Go.Proofs.YtdnphaganajejaaGreatDoor.K
namespace Go.Proofs.YtdnphaganajejaaGreatDoor.K
open Go.Proofs.Tryz
open Go.RowKit Go.Shelf
theorem PQ:∀ (l r:Str),(10:UInt8) ∉ l->Lib.indexByte (l++10 :: r) 10=(l.length:Int)
 | [],r,_=>by simp[Lib.indexByte]
 | b :: l,r,h=>by
  have j:b ≠ 10:=fun e=>h (by rw[e];simp);have G:=PQ l r (fun A=>h (by simp[A]));have hb:(b == 10)=false:=by simpa using j
  show (if b == 10 then 0 else if Lib.indexByte (l++10 :: r) 10 == -1 then -1 else Lib.indexByte (l++10 :: r) 10+1)=_;rw[G,hb];have D:((l.length:Int) == -1)=false:=by simp
  rw[D];simp
theorem Bu (s:Str):Lib.bytesOf (nm s)=s:=by
 unfold Lib.bytesOf nm;rw[List.map_map];conv=>rhs;rw[<-List.map_id s]
 apply List.map_congr_left;intro b _;simp
theorem quK (b off c:Nat) (s:Str) (w:World) (h:PB w (some ⟨b,off,none⟩) c s):(callFunc 209 #[.slice (some ⟨b,off,none⟩) s.length c,.int .u8 10]).run prog w=.ok (.value (.int .i64 (Lib.indexByte s 10))) w:=by
 rw[run_callFunc_extern func209 (by kernel_rfl) (by kernel_rfl) (by kernel_rfl) (e:=Extern.BytealgIndexByte.indexByte) (by kernel_rfl),Lib.run_indexByteAt w ⟨b,off,none⟩ s.length c (nm s) (x9 s) (fun i hi=>by rw[x7,PB.cell h i hi];simp[nm,List.getD_eq_getElem?_getD,List.getElem?_eq_getElem hi]),Bu];rfl
theorem quV (b off c:Nat) (s:Str) (w:World) (h:PB w (some ⟨b,off,none⟩) c s):Calls prog 173 #[.slice (some ⟨b,off,none⟩) s.length c,.int .u8 10] w fun e w'=>e=.returned (.int .i64 (Lib.indexByte s 10))/\w'=w:=by
 have j:=quK b off c s w h;obtain⟨n,A⟩:∃ n,s.length=n:=⟨_,rfl⟩;rw[A] at j ⊢;go_enter func173,ntmps173;go_wp2;go_ret;exact⟨rfl,rfl⟩
def fL {σ:Type} (en:σ->Str) (L:List σ):Str:=L.flatMap fun s=>en s++[10]
theorem qqj {σ:Type} (h:σ->Str) (l:σ) (L:List σ):fL h (l :: L)=h l++10 :: fL h L:=by simp[fL]
def BZ {σ:Type} (en:σ->Str) (L:List σ) (x:Value × σ) (W:World):Prop:=x.2 ∈ L/\∃ a,x.1=.slice a (en x.2++[10]).length (en x.2++[10]).length/\PB W a (en x.2++[10]).length (en x.2++[10])
theorem Fre.set {X B:Nat} {A:World} (h:Fre X A B) (v:Value):Fre X (A.setCell ⟨B,0,none⟩ v) B :=
 ⟨by simp[World.setCell];exact h.lt,h.ne,fun ⟨u,j,D⟩=>h.no ⟨u,by
  rw[<-j]
  exact(World.cell?_of_block (a:=⟨X,0,none⟩) (Below.heap_setCell _ _ _ X (fun e=>h.ne e.symm))).symm,D⟩⟩
theorem Fre.set2 {X B C:Nat} {A:World} (h:Fre X A B) (G:Fre X A C) (v:Value):Fre X (A.setCell ⟨C,0,none⟩ v) B :=
 ⟨by simp[World.setCell];exact h.lt,h.ne,fun ⟨u,j,D⟩=>h.no ⟨u,by
  rw[<-j]
  exact(World.cell?_of_block (a:=⟨X,0,none⟩) (Below.heap_setCell _ _ _ X (fun e=>G.ne e.symm))).symm,D⟩⟩
structure Ki (X Bs:Nat) (a:Option Addr) (w W:World):Prop where
 fs:Fre X W Bs
 kb:∀ p:Addr,a=some p->W.heap[p.block]? = w.heap[p.block]?/\Fre X W p.block/\p.block ≠ Bs
 x:X<W.heap.size
theorem Ki.kx {X Bs l:Nat} {a:Option Addr} {w A B:World} (h:Ki X Bs a w A) (D:Kx X l A B) (G:∀ p:Addr,a=some p->p.block ≠ l):Ki X Bs a w B :=
 ⟨h.fs.kx D,fun p j=>⟨(D.blk _ (h.kb p j).2.1.lt (h.kb p j).2.1.ne (G p j) (h.kb p j).2.1.no).trans (h.kb p j).1,(h.kb p j).2.1.kx D,(h.kb p j).2.2⟩,Wq2 h.x D.size⟩
theorem Ki.set {X Bs:Nat} {a:Option Addr} {w A:World} (h:Ki X Bs a w A) (v:Value):Ki X Bs a w (A.setCell ⟨Bs,0,none⟩ v) :=
 ⟨h.fs.set v,fun p j=>⟨(Below.heap_setCell _ _ _ _ (h.kb p j).2.2).trans (h.kb p j).1,(h.kb p j).2.1.set2 h.fs v,(h.kb p j).2.2⟩,by simp[World.setCell];exact h.x⟩
theorem quW (b off n cap j m:Nat) (h:j<=m) (A:m<=cap) (w:World):(Instr.slice 82 (.slice (some ⟨b,off,none⟩) n cap) none (some (.int .i64 j)) (some (.int .i64 m))).run prog w=.ok (.slice (some ⟨b,off,none⟩) j m) w:=by
 go_simp
set_option maxRecDepth 100000 in
theorem zzq (n:Nat) (hn:1<=n) (w:World) (X Bs:Nat) (a:Option Addr) (c:Nat) {σ:Type} (h:σ->Str) (L:List σ) (hL:∀ l ∈ L,(10:UInt8) ∉ h l) (hP:PB w a c (fL h L)) (hl:(fL h L).length<=300000000) (aI:Boxed w Bs 82 (.slice a (fL h L).length c)) (O:Ki X Bs a w w) :
  zxX Bs Fence.wide n prog 172 #[.pointer (some ⟨Bs,0,none⟩)] (fun x:Value × σ=>#[x.1]) (BZ h L) (Kx X) (fun xs=>xs.map (·.2)=L) 400000000 w:=by
 intro l J W hW bq bo hJ aB hY h0;have K0:Kx X l w W:=⟨hW.os,hW.tape,hW.output,hW.size,fun k ⟨v,M,h2⟩=>.inl ⟨v,by rw[<-M];exact(hW.cell (p:=⟨X,0,none⟩) O.x).symm,h2⟩,fun k M _ _ _=>hW.block k M,fun hb k ⟨v,M,h2⟩=>Wq2 (hb k ⟨v,by rw[<-M];exact(hW.cell (p:=⟨X,0,none⟩) O.x).symm,h2⟩) hW.size⟩;have aA:Bs ≠ l:=by have:=O.fs.lt;omega
 have ay:Hid (∀ p:Addr,a=some p->p.block ≠ l):=fun p V=>by have:=(O.kb p V).2.1.lt;omega
 have aO:Hid (Boxed W Bs 82 (.slice a (fL h L).length c)):=hid (P9 aI K0 O.fs aA);have aV:Hid (Ki X Bs a w W):=hid (O.kx K0 ay.out);have b8:Hid (∀ pre x G,J pre G->BZ h L x G->pre.length<400000000->YieldAt Fence.wide (n-1) prog l #[x.1] G fun e W'=>e=.returned (.bool true)/\J (pre++[x]) W'/\Kx X l G W'):=fun pre x G M h2 h3=>hY pre x G M h2 h3
 have aS:Hid (∀ s A B,J s A->A.grownBy B none->J s B):=hJ;have aQ:Hid (∀ s A B,J s A->A.grownBy B (some Bs)->J s B):=aB;have aP:Hid (J [] W):=h0;have b7:Hid ((fL h L).length<=300000000):=hl;have aX:=hid hL;have HP:=hid hP;clear hJ aB hY h0 aI K0 hl O hL hP;refine callsIn_of_wp func172 rfl trivial ?_ rfl
 simp only[ntmps172,List.size_toArray,Wzu,WzQ,Nat.reduceAdd,Nat.reduceSub,Array.replicate_succ,Array.replicate_zero,List.push_toArray,List.append_toArray,WyX,List.cons_append];gi_wp2
 gi_loopg [] (fL h L).length (fun k wr=>∃ (pre:List (Value × σ)) (R:List σ) (a':Option Addr) (K:Nat),k=(fL h R).length/\Hid (pre.map (·.2)++R=L)/\Hid ((∀ l ∈ R,(10:UInt8) ∉ h l)/\(fL h R).length+pre.length<=300000000)/\Hid (PB w a' K (fL h R))/\Hid (∀ p:Addr,a'=some p->∃ p0,a=some p0/\p.block=p0.block)/\Hid (Boxed wr Bs 82 (.slice a' (fL h R).length K))/\Hid (Ki X Bs a w wr)/\Hid (J pre wr))
 case atStart=>exact⟨[],L,a,c,rfl,hid rfl,hid ⟨aX.out,by simpa using b7.out⟩,HP,hid (fun p V=>⟨p,V,rfl⟩),aO,aV,aP⟩
 obtain⟨pre,R,a',K,hk,HM,ah,b2,b6,a7,I,ag⟩:=hrel;have ks:wr.cell? ⟨Bs,0,none⟩=some (.slice a' (fL h R).length K):=a7.out.cell;have fz:wr.frozen? ⟨Bs,0,none⟩=false:=a7.out.frozen;cases R with
 | nil =>
  have HE:Hid (pre.map (·.2)=L):=hid (by simpa using HM.out);have e0:(fL h ([] : List σ)).length=0:=rfl;rw[e0] at ks;clear hk e0;gi_wp2;go_end0;exact⟨⟨_,rfl⟩,pre,HE.out,ag.out⟩
 | cons ln R =>
  have aK:(10:UInt8) ∉ h ln:=ah.out.1 ln (by simp);have D:=qqj h ln R;obtain⟨N,hN⟩:∃ N,(fL h (ln :: R)).length=N:=⟨_,rfl⟩;obtain⟨i,hi⟩:∃ i,(h ln).length=i:=⟨_,rfl⟩;obtain⟨m,hm⟩:∃ m,(fL h R).length=m:=⟨_,rfl⟩;have aE:N=i+1+m:=by rw[<-hN,D,Wzy,Wzu,hi,hm];omega
  have bk:N+pre.length<=300000000:=by rw[<-hN];exact ah.out.2
  have Y:=b2.out;obtain⟨b,off,e1,_⟩:=Y.at_ (by omega);subst e1;have aJ:=Y.capl;rw[hN] at aJ;obtain⟨p0,aj,a6⟩:=b6.out _ rfl;have aN:Hid (∀ G,Ki X Bs a w G->G.heap[b]? = w.heap[b]?/\w.heap.size<=w.heap.size):=fun G M=>⟨by have:=(M.kb p0 aj).1;rw[<-a6] at this;exact this,Wz8 _⟩
  have aL:∀ G,Ki X Bs a w G->b<G.heap.size:=fun G M=>by have:=(M.kb p0 aj).2.1.lt;rw[<-a6] at this;exact this
  have ak:∀ G,Ki X Bs a w G->∀ cc s,PB w (some ⟨b,off,none⟩) cc s->PB G (some ⟨b,off,none⟩) cc s:=fun G M cc s hs=>⟨hs.capl,fun h0=>by
   obtain⟨b1,o1,e1,e2,e3⟩:=hs.at_ h0;cases e1
   refine⟨b,off,rfl,aL G M,fun q hq j v hv=>?_⟩;rw[World.cell?_of_block (a:=⟨b,off+q*1+j,none⟩) (aN.out G M).1];exact e3 q hq j v hv,hs.nil⟩
  have ae:=quV b off K (fL h (ln :: R)) wr (ak wr I.out _ _ Y);rw[D,PQ (h ln) (fL h R) aK,<-D,hN,hi] at ae;rw[hN] at ks;have ax:Hid (PB w (adX 1 (some ⟨b,off,none⟩) K (i+1)) (K-(i+1)) (fL h R)):=hid (by
   have:=Y.from (i+1) (by omega);rw[D,show (h ln++10 :: fL h R).drop (i+1)=fL h R by rw[show h ln++10 :: fL h R=(h ln++[10])++fL h R by simp,Wxq (by simp;omega),Wxx (by simp;omega),WyX]] at this;exact this)
  have ad:Hid (∀ p:Addr,adX 1 (some ⟨b,off,none⟩) K (i+1)=some p->∃ p0,a=some p0/\p.block=p0.block):=fun p V=>by
   refine⟨p0,aj,?_⟩;unfold adX at V;split at V
   ·cases V;exact a6
   simp only[Option.map_some,Option.some.injEq,x7] at V;subst V;exact a6
  obtain⟨ra,am⟩:∃ r,adX 1 (some ⟨b,off,none⟩) K (i+1)=r:=⟨_,rfl⟩;obtain⟨rc,aM⟩:∃ r,K-(i+1)=r:=⟨_,rfl⟩;rw[am,aM] at ax;rw[am] at ad;have bg:∀ w:World,(Instr.slice 82 (.slice (some ⟨b,off,none⟩) N K) none (some (.int .i64 ((i:Int)+1))) none).run prog w=.ok (.slice (some ⟨b,off,none⟩) (i+1) K) w:=fun w=>by
   have:=Wv b off N K (i+1) (by omega) w;push_cast at this;exact this
  have bh:∀ w:World,(Instr.slice 82 (.slice (some ⟨b,off,none⟩) N K) (some (.int .i64 ((i:Int)+1))) none none).run prog w=.ok (.slice ra m rc) w:=fun w=>by
   have:=qxv (some ⟨b,off,none⟩) N K (i+1) (by omega) w;rw[am,aM,show N-(i+1)=m by omega] at this;push_cast at this;exact this
  have bp:∀ w:World,(Instr.slice 82 (.slice (some ⟨b,off,none⟩) (i+1) K) none (some (.int .i64 ((i:Int)+1))) (some (.int .i64 ((i:Int)+1)))).run prog w=.ok (.slice (some ⟨b,off,none⟩) (i+1) (i+1)) w:=fun w=>by
   have:=quW b off (i+1) K (i+1) (i+1) (Wz8 _) (by omega) w;push_cast at this;exact this
  have aW:Hid (∀ G,Ki X Bs a w G->BZ h L (.slice (some ⟨b,off,none⟩) (i+1) (i+1),ln) G):=fun G M=>by
   have ht:=ak G M _ _ (Y.take (i+1));rw[D,show (h ln++10 :: fL h R).take (i+1)=h ln++[10] by rw[show h ln++10 :: fL h R=(h ln++[10])++fL h R by simp,Wxj (by simp;omega),Wq0 (by simp;omega)]] at ht;refine⟨by rw[<-HM.out];simp,some ⟨b,off,none⟩,by simp[hi],?_⟩;exact⟨Wz8 _,ht.at_,fun e=>by cases e⟩
  have bj:(0:Int)<(N:Int):=by omega
  have bn:(0:Int)<=(i:Int):=by omega
  have bm:i<=300000000:=by omega
  have bi:IntKind.i64.wrap ((i:Int)+1)=(i:Int)+1:=by rw[IntKind.wrap_i64];omega
  have aY:Hid ((pre++[((Value.slice (some ⟨b,off,none⟩) (i+1) (i+1),ln):Value × σ)]).map (·.2)++R=L):=hid (by rw[<-HM.out];simp);have az:Hid ((∀ l ∈ R,(10:UInt8) ∉ h l)/\(fL h R).length+(pre++[((Value.slice (some ⟨b,off,none⟩) (i+1) (i+1),ln):Value × σ)]).length<=300000000):=hid ⟨fun x hx=>ah.out.1 x (by simp[hx]),by rw[hm,Wzy,List.length_singleton];omega⟩
  have Z:=a7;rw[hN] at Z;have aw:=hid hm;have bf:gk=N:=hk.trans hN;have aZ:=hid aE;clear Y D hN hi hm a6 ak aL aK a7 hk aE;gi_wp2_with (refine⟨trivial,?_⟩;gi_at_call 173;refine(callsIn_wide.2 ae).mono ?_;clear ae;rintro ev w1 ⟨rfl,rfl⟩);refine wpIn_wide.2 ?_;have aH:w1.drew.cell? ⟨Bs,0,none⟩=some (.slice (some ⟨b,off,none⟩) N K):=ks
  have be:w1.drew.frozen? ⟨Bs,0,none⟩=false:=fz;refine Y5 (fun w'=>w'.cell? ⟨Bs,0,none⟩=some (.slice (some ⟨b,off,none⟩) N K)) 9 (by kernel_rfl) ?_;have au:Hid (J pre w1.drew):=hid (aS.out _ _ _ ag.out (Ru w1));have ao:Hid (Boxed w1.drew Bs 82 (.slice (some ⟨b,off,none⟩) N K)):=Z
  have av:Hid (Ki X Bs a w w1.drew):=hid ⟨⟨I.out.fs.lt,I.out.fs.ne,I.out.fs.no⟩,fun p V=>⟨(I.out.kb p V).1,⟨(I.out.kb p V).2.1.lt,(I.out.kb p V).2.1.ne,(I.out.kb p V).2.1.no⟩,(I.out.kb p V).2.2⟩,I.out.x⟩;clear ks fz Z I ag;generalize w1.drew=w2 at aH be au ao av ⊢;iterate 9
   refine QZ (v:=?_) aH ?_ ?_;rotate_left
   ·intro w' s0;go_simp;first | rfl | (simp only[bi,bg,bh,Result.andThen_ok];rfl)
   try simp only[Act.put,sL]
  refine xZ (i:=9) (by kernel_rfl) (ju rfl (fun KK aD=>?_));go_simp;refine aD.out _ _ (.inl rfl) ?_;clear aD KK;try simp only[Act.put,sL]
  refine Su (by kernel_rfl) ?_ _;have ar:Hid (J pre (w2.setCell ⟨Bs,0,none⟩ (.slice ra m rc))):=hid (aQ.out _ _ _ au.out (grownBy_setCell' w2 Bs _));have ac:Hid (Boxed (w2.setCell ⟨Bs,0,none⟩ (.slice ra m rc)) Bs 82 (.slice ra m rc)):=hid (Boxed.set _ ao.out);have a8:Hid (Ki X Bs a w (w2.setCell ⟨Bs,0,none⟩ (.slice ra m rc))):=hid (av.out.set _)
  generalize w2.setCell ⟨Bs,0,none⟩ (.slice ra m rc)=W4 at ar ac a8 ⊢;simp only[Exit.then];gi_wp2;obtain⟨b9,tmps,assign,body,hy,aF⟩:=b8.out pre (.slice (some ⟨b,off,none⟩) (i+1) (i+1),ln) W4 ar.out (aW.out W4 a8.out) (by omega)
  have aG:Hid (RoundIn Fence.wide (n-1) prog l b9 tmps assign body W4 fun e W'=>e=.returned (.bool true)/\J (pre++[((.slice (some ⟨b,off,none⟩) (i+1) (i+1),ln):Value × σ)]) W'/\Kx X l W4 W'):=hid aF;clear aF;simp only[hy,go_sem];gi_wp2;refine aG.out.mono ?_;rintro e1 W5 ⟨rfl,aC,ai⟩
  have ap:Hid (Boxed W5 Bs 82 (.slice ra (fL h R).length rc)):=hid (by rw[aw.out];exact P9 ac.out ai a8.out.fs aA);have aU:Hid (Ki X Bs a w W5):=hid (a8.out.kx ai ay.out);have aR:=hid aC;clear aC ai;gi_wp2;gi_roundg (fL h R).length;case measure=>have:=aZ.out;rw[aw.out,bf];omega
  case rel=>exact⟨_,R,ra,rc,rfl,aY,az,ax,ad,ap,aU,aR⟩
end Go.Proofs.YtdnphaganajejaaGreatDoor.K
namespace Go.Proofs.YtdnphaganajejaaGreatDoor.K
open Go.Proofs.Tryz
open Go.RowKit
theorem results61:f61.results=#[.tmp 4]:=by kernel_rfl
theorem results52:f52.results=#[.tmp 6]:=by kernel_rfl
theorem qxw {w:World} {a:Option Addr} {c:Nat} {s:Str} (h:PB w a c s):Sl w a c (nm s) :=
 ⟨by rw[x9];exact h.capl,fun h0=>by
  rw[x9] at h0
  obtain⟨b,off,e1,j,_⟩:=h.at_ h0
  subst e1
  refine⟨b,off,rfl,j,fun i hi=>?_⟩
  rw[x9] at hi
  rw[PB.cell h i hi]
  simp[nm,List.getD_eq_getElem?_getD,List.getElem?_eq_getElem hi],h.nil⟩
theorem pb_eB {w:World} {a:Option Addr} {c:Nat} {s:Str} (h:Px eB 1 0 w a c (nm s)):PB w a c s :=
 ⟨by have:=h.capl;rwa [x9] at this,fun h0=>by
  obtain⟨b,off,e1,A,D⟩:=h.at_ (by rw[x9];exact h0)
  refine⟨b,off,e1,A,fun i hi j v hv=>D i (by rw[x9];exact hi) j v ?_⟩
  rw[<-hv]
  simp[eB,encB,nm,List.getD_eq_getElem?_getD,List.getElem?_eq_getElem hi],h.nil⟩
theorem zvx {w0 w:World} {B:Nat} {v:Value} {l:Str} (h:Bb w0 w B v l):∃ a c,v=.slice a l.length c/\PB w a c l/\∀ p:Addr,a=some p->B<=p.block/\p.block<w.heap.size:=by
 obtain⟨a,c,e,j,A,_⟩:=h.px (d:=0) (fun _ _=>rfl);rw[x9] at e;exact⟨a,c,e,pb_eB j,A⟩
structure Nms (T:Ts) (ss:List Str):Prop where
 mem:∀ x,x ∈ ss ↔ T x ≠ none
 pw:ss.Pairwise (fun x y=>decide (x<=y)=true)
 nd:ss.Nodup
theorem I2 (a:Option Addr) (c:Nat) (ss:List Sp) (w:World) (K:Tab w) (j:Db w) (I:Px zJ 68 dS w a c ss) (A:∀ s ∈ ss,StL s) (L:(wrL ss).length<=280000000) (M:ss.length<=1000000) :
  Calls prog 92 #[.slice a ss.length c] w fun e w1=>Below w.heap.size w w1/\∃ v,e=.returned v/\Calls prog 91 #[v] w1 fun D w2=>Below w.heap.size w w2/\∃ g cap,D=.returned (.slice (some ⟨g,0,none⟩) (bkS (wrL ss)).length cap)/\PB w2 (some ⟨g,0,none⟩) cap (bkS (wrL ss))/\w.heap.size<=g/\g<w2.heap.size:=by
 refine(W9 a c ss w K I A (by omega) (by omega)).mono ?_;rintro e w1 ⟨v,rfl,hB⟩;obtain⟨a1,c1,rfl,h,_⟩:=zvx hB;refine⟨hB.below,_,rfl,?_⟩;refine(Nv a1 c1 (wrL ss) w1 h (by omega) (j.below hB.below)).mono ?_;rintro D w2 ⟨g,cap,rfl,G,J,hb⟩;have hs:=hB.below.size;exact⟨hB.below.trans (hb.mono hs),g,cap,rfl,G.pb,Wz9 hs J,G.lt⟩
end Go.Proofs.YtdnphaganajejaaGreatDoor.K
