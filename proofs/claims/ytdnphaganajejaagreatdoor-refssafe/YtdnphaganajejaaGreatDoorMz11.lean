import Derived.Test.YtdnphaganajejaaGreatDoorMz10
set_option linter.unusedSimpArgs false
set_option linter.unusedVariables false
set_option maxRecDepth 20000
set_option maxHeartbeats 4000000
open ByteArray renaming size->Wqz
open Int renaming natAbs_tmod->WyZ,tdiv_eq_ediv_of_nonneg->Wy6,tmod_eq_emod_of_nonneg->Wy7
open List renaming cons_append->WyQ,getElem_mem->Wz4,length_drop->Wy9,mem_cons->Wqj,nil_append->WyX,not_mem_nil->WyJ,replicate->Wz7
open Nat renaming add_zero->WyK,le_refl->Wz8,le_trans->Wz9,lt_of_lt_of_le->Wq2,lt_or_ge->Wy4
namespace Go.Proofs.YtdnphaganajejaaGreatDoor
open Go.Proofs.Tryz
open Go.RowKit
def N43:Array Value:=(row .u32 N5.l++row .u8 (Wz7 64 0)++([.int .u64 0] : List Value)).toArray
theorem qz3 {w:World} {g:Nat} (h:w.heap[g]? = some (.cells N43 301 (0,0))):Dig w g []:=by
 have A:g<w.heap.size:=by
  rcases Wy4 g w.heap.size with j | j
  ·exact j
  rw[Array.getElem?_eq_none j] at h;cases h
 have c:∀ i,w.cell? ⟨g,i,none⟩=N43[i]? := fun i=>cell_of_row w g i _ 301 _ h;refine⟨A,fun i hi=>?_,⟨Wz7 64 0,by simp,?_,fun i hi=>?_,fun i hi=>by simp at hi⟩,by rw[c];rfl,fun i=>frozen_of_row w g i _ 301 h⟩
 ·rw[c];match i,hi with
  | 0,_=>rfl
  | 1,_=>rfl
  | 2,_=>rfl
  | 3,_=>rfl
  | 4,_=>rfl
 ·intro x hx;rw[List.mem_replicate] at hx;omega
 rw[c];have e:N43[5+i]? = (row .u8 (Wz7 64 0))[i]? := by
  simp only[N43,List.getElem?_toArray];rw[List.getElem?_append_left (by rw[List.length_append,zv,zv];simp[S5.l,N5];omega),List.getElem?_append_right (by rw[zv];simp[S5.l,N5])];congr 1;rw[zv];simp[S5.l,N5]
 rw[e,uW .u8 _ i (by simpa using hi)]
theorem qz4 (w:World):Calls prog 155 #[] w fun e w'=>e=.returned (.pointer (some ⟨w.heap.size,0,none⟩))/\w'=w.alloc (.cells N43 301):=by
 obtain⟨A,h⟩:=nn_ Z43;have j:=zyQ;rw[<-h.out] at j;have hsz:A.size=70:=by rw[h.out];rfl
 have D:Hid (((((A.setIfInBounds 0 (.int .u32 1732584193)).setIfInBounds 1 (.int .u32 4023233417)).setIfInBounds 2 (.int .u32 2562383102)).setIfInBounds 3 (.int .u32 271733878)).setIfInBounds 4 (.int .u32 3285377520)=N43):=hid (by rw[h.out];rfl);go_enter func155,ntmps155;go_wp2;go_ret;refine⟨rfl,?_⟩;rw[<-D.out]
theorem sum6 (a:Option Addr) (cap:Nat) (zs:List Int) (w:World) (hl:zs.length<=300000000) (hz:IsB zs) (hc:0<zs.length->∃ b off,a=some ⟨b,off,none⟩/\b<w.heap.size/\At w b off zs/\zs.length<=cap) :
  Calls prog 116 #[.slice a zs.length cap] w fun e w'=>e=.returned (.agg (row .u8 (sha zs)).toArray)/\Below w.heap.size w w':=by
 obtain⟨zr,HZ⟩:=nn_ ((row .u8 z20).toArray);have Z:=zyX;rw[<-HZ.out] at Z;obtain⟨fr,HE⟩:=nn_ (sha zs);have J:fr.length=20:=by rw[HE.out];exact YJ _
 have Y:(prog.info? 116).map (·.size)=some (row .u8 fr).length:=by rw[zv,J];exact size116
 have T2:Hid ((prog.info? 116).map (·.size)=some (row .u8 fr).toArray.size):=hid (by rw[vJ,J];exact size116);have T3:Hid ((row .u8 fr).toArray.all (·.oneCell')=true):=all_oneCell_toArray (yK _ _);obtain⟨w0,G⟩:=nn_ (w.alloc (.cells zr 116));have j:w0.heap.size=w.heap.size+1:=by rw[G.out];simp
 have a8:Hid (w0.heap[w.heap.size]? = some (.cells (row .u8 z20).toArray 116 (0,0))):=hid (by rw[G.out,HZ.out];exact heap_alloc_new w _);have L:Hid (Below w.heap.size w w0):=hid (by rw[G.out];exact(Below.refl _ w).alloc (Wz8 _) _);replace j:=hid j;go_enter func116,ntmps116;go_wp2_with fail
 rw[<-G.out];refine(qz4 w0).mono ?_;rintro e w1 ⟨rfl,K⟩;have M:Dig w1 w0.heap.size []:=qz3 (by rw[K];exact heap_alloc_new w0 _);have ad:Hid (Below w0.heap.size w0 w1):=hid (by rw[K];exact(Below.refl _ w0).alloc (Wz8 _) _);clear K;rw[j.out] at M;have A:Hid (Below (w.heap.size+1) w0 w1):=hid (by rw[<-j.out];exact ad.out);rw[j.out]
 go_wp2_with fail
 refine(V7 (w.heap.size+1) [] a cap zs w1 M (by simp;omega) (fun x hx=>by cases hx) hz (fun h=>by
  obtain⟨b,off,h1,h2,h3,h4⟩:=hc h;exact⟨b,off,h1,by have:=A.out.size;have:=j.out;omega,by omega,fun i hi=>(A.out.cell (p:=⟨b,off+i,none⟩) (by show b<_;omega)).trans ((L.out.cell (p:=⟨b,off+i,none⟩) h2).trans (h3 i hi)),h4⟩)).mono ?_
 rintro e w2 ⟨rfl,I,D⟩;rw[WyX] at I;have ag:=A.out.size;have ah:=D.size;have a6:Hid (Below w.heap.size w w2):=(L.out.trans (A.out.mono (by omega))).grown D (by have:=j.out;omega) (fun k hk=>by simp at hk;omega)
 have ac:Hid (w2.heap[w.heap.size]? = some (.cells (row .u8 z20).toArray 116 (0,0))):=(D.block _ (by have:=j.out;omega) (by simp)).trans ((A.out.block _ (by omega)).trans a8.out);have ae:w.heap.size<w2.heap.size:=by have:=j.out;omega
 replace D:=hid D;replace I:=hid I;go_wp2_with fail
 refine(qz2 (w.heap.size+1) zs w2 I.out (by omega) hz).mono ?_;rintro e w3 ⟨rfl,V⟩;have a7:Hid (Below w.heap.size w w3):=a6.out.trans (V.mono (by omega));have O:Hid (w3.heap[w.heap.size]? = some (.cells (row .u8 z20).toArray 116 (0,0))):=(V.block _ ae).trans ac.out
 have T1:Hid (w3.there w.heap.size 0 (row .u8 fr).toArray.size):=hid (by rw[vJ,J];exact yW O.out rfl);have T4:Hid (w3.there w.heap.size 0 (row .u8 fr).length):=hid (by rw[zv,J];exact yW O.out rfl);rw[<-HE.out];go_wp2_with (refine wpList_store_mid rfl 116 _ _ rfl w.heap.size 0 (row .u8 fr).toArray rfl rfl T1.out T2.out T3.out ?_)
 exact bodyPost_ret (v:=.agg (row .u8 fr).toArray) (yq Tryz.results116 _ _ w.heap.size _ _ rfl (World.rangeAt_setCells_same w3 w.heap.size 0 _ T4.out) underlying116 rfl Y) rfl ⟨by rw[HE.out],zW (Wz8 _) _ _ _ _ a7.out⟩
def PId (t:List UInt8) (fr:List Int):Prop:=fr.length=20/\(∀ n ∈ fr,0<=n/\n<256)/\((t.length=40/\Hx.good ⟨t.toArray⟩)->fr=Hx.idAt ⟨t.toArray⟩ 40)
def PostP (t:List UInt8) (e:Ending):Prop := ∃ (fr:List Int) (ev:Value),e=.returned (.tuple #[.agg (row .u8 fr).toArray,ev])/\PId t fr
theorem S9 (t:List UInt8) (w:World) (I:t.length<=300000000):Calls prog 211 #[.string ⟨t.toArray⟩] w fun e w'=>Below w.heap.size w w'/\PostP t e:=by
 have hsz:(⟨t.toArray⟩:ByteArray).size=t.length:=by simp[Wqz]
 refine(Hx.parse_prog ⟨t.toArray⟩ w (by rw[hsz];exact I)).mono ?_;rintro e w' ⟨hb,A,D⟩;refine⟨hb,?_⟩;rw[hsz] at A D;by_cases h:t.length=40/\Hx.good ⟨t.toArray⟩
 ·exact⟨Hx.idAt ⟨t.toArray⟩ 40,_,A h,Hx.idAt_len _ _,fun n j=>Hx.idAt_bd _ _ n j,fun _=>rfl⟩
 exact⟨Hx.zeros,_,D h,rfl,fun n j=>by rw[List.eq_of_mem_replicate j];omega,fun G=>absurd G h⟩
def Ers (w:World):Prop:=(∃ ev,w.cell? ⟨4,0,none⟩=some ev/\(ev=.nilIface ∨ ∃ te pe,ev=.iface te pe))/\(∃ ev,w.cell? ⟨5,0,none⟩=some ev/\(ev=.nilIface ∨ ∃ te pe,ev=.iface te pe))
theorem cell_lt {w:World} {p:Addr} {v:Value} (h:w.cell? p=some v):p.block<w.heap.size:=by
 rcases Wy4 p.block w.heap.size with j | j
 ·exact j
 simp[World.cell?,Array.getElem?_eq_none j] at h
theorem Ers.below {w w':World} (h:Ers w) (hb:Below w.heap.size w w'):Ers w':=by
 obtain⟨⟨e1,j,k1⟩,⟨D,A,G⟩⟩:=h;exact⟨⟨e1,(hb.cell (cell_lt j)).trans j,k1⟩,⟨D,(hb.cell (cell_lt A)).trans A,G⟩⟩
theorem Sz (w:World) (e:TypeId) (s:ByteArray):Below w.heap.size w (Lib.bytesWorld w e s):=⟨rfl,rfl,rfl,by rw[Lib.bytesWorld_size];omega,fun k h=>Lib.bytesWorld_at_old w e s k h⟩
def PA (r:Lib.NumEnd Int) (e:Ending):Prop := ∃ x ev,e=.returned (.tuple #[.int .i64 x,ev])/\((ev=.nilIface/\r=.ok x) ∨ ((∃ N,ev=.iface 311 (.pointer (some ⟨N,0,none⟩)))/\∀ v,r ≠ .ok v))
theorem CZ (l:List UInt8) (J:l.length<=1000000) (w:World) (G:Ers w):Calls prog 242 #[.string ⟨l.toArray⟩] w fun e w'=>Below w.heap.size w w'/\PA (Lib.atoiAll l) e:=by
 have hsz:(⟨l.toArray⟩:ByteArray).size=l.length:=by simp[Wqz]
 obtain⟨⟨e1,A,k1⟩,⟨j,D,I⟩⟩:=G;cases hr:Lib.atoiAll l with
 | ok v =>
  refine(Any.strconv_Atoi_ok laysC172 ⟨l.toArray⟩ (by rw[hsz];omega) v hr w).mono ?_;rintro e w' ⟨rfl,h⟩;refine⟨?_,_,_,rfl,.inl ⟨rfl,rfl⟩⟩;rcases h with rfl | ⟨t,rfl⟩
  ·exact Below.refl _ _
  exact Sz _ _ _
 | «syntax» =>
  refine(Any.strconv_Atoi_syntax laysC172 ⟨l.toArray⟩ (by rw[hsz];omega) hr e1 w A k1).mono ?_;rintro e w' ⟨N,rfl,-,-,h⟩;exact⟨h,_,_,rfl,.inr ⟨⟨N,rfl⟩,fun v hv=>by cases hv⟩⟩
 | range =>
  refine(Any.strconv_Atoi_range laysC172 ⟨l.toArray⟩ (by rw[hsz];omega) hr j w D I).mono ?_;rintro e w' ⟨N,rfl,-,-,h⟩;exact⟨h,_,_,rfl,.inr ⟨⟨N,rfl⟩,fun v hv=>by cases hv⟩⟩
theorem K9 (l:List UInt8) (J:l.length<=1000000) (w:World) (G:Ers w):Calls prog 138 #[.string ⟨l.toArray⟩,.int .i64 10,.int .i64 64] w fun e w'=>Below w.heap.size w w'/\PA (Lib.parseIntB 64 l) e:=by
 have hsz:(⟨l.toArray⟩:ByteArray).size=l.length:=by simp[Wqz]
 obtain⟨⟨e1,A,k1⟩,⟨j,D,I⟩⟩:=G;cases hr:Lib.parseIntB 64 l with
 | ok v =>
  refine(Any.strconv_ParseInt_10_at64_ok laysC174 ⟨l.toArray⟩ (by rw[hsz];omega) v hr w).mono ?_;rintro e w' ⟨rfl,h⟩;refine⟨?_,_,_,rfl,.inl ⟨rfl,rfl⟩⟩;rcases h with rfl | ⟨t,rfl⟩
  ·exact Below.refl _ _
  exact Sz _ _ _
 | «syntax» =>
  refine(Any.strconv_ParseInt_10_at64_syntax laysC174 ⟨l.toArray⟩ (by rw[hsz];omega) hr e1 w A k1).mono ?_;rintro e w' ⟨N,rfl,-,-,h⟩;exact⟨h,_,_,rfl,.inr ⟨⟨N,rfl⟩,fun v hv=>by cases hv⟩⟩
 | range =>
  refine(Any.strconv_ParseInt_10_at64_range laysC174 ⟨l.toArray⟩ (by rw[hsz];omega) hr j w D I).mono ?_;rintro e w' ⟨N,rfl,-,-,h⟩;exact⟨h,_,_,rfl,.inr ⟨⟨N,rfl⟩,fun v hv=>by cases hv⟩⟩
def PZ (l:List UInt8) (z:Int):Prop := ∀ v,Lib.atoiAll l=.ok v->-10000<=v->v<=10000->z=v.tdiv 100*60+v.tmod 100
def qx7 (l:List UInt8) (e:Ending):Prop := ∃ z,e=.returned (.int .i64 z)/\PZ l z
theorem CQ (l:List UInt8) (hl:l.length<=1000000) (w:World) (Y:Ers w):Calls prog 233 #[.string ⟨l.toArray⟩] w fun e w'=>Below w.heap.size w w'/\qx7 l e:=by
 obtain⟨S,O⟩:=nm_ (⟨l.toArray⟩:ByteArray);have HA:Hid (Calls prog 242 #[.string S] w fun e w'=>Below w.heap.size w w'/\PA (Lib.atoiAll l) e):=hid (by rw[<-O.out];exact CZ l hl w Y);rw[O.out];clear Y;go_enter func233,ntmps233;go_wp2_with fail
 refine HA.out.mono ?_;rintro e w1 ⟨hb,x,V,rfl,hx⟩;have D:Hid (Below w.heap.size w w1):=hb;have HX:Hid ((V=.nilIface/\Lib.atoiAll l=.ok x) ∨ ((∃ N,V=.iface 311 (.pointer (some ⟨N,0,none⟩)))/\∀ v,Lib.atoiAll l ≠ .ok v)):=hx;clear hb hx;rcases HX.out with ⟨rfl,A⟩ | ⟨⟨N,rfl⟩,j⟩;rotate_left
 ·have G:Hid (∀ v,Lib.atoiAll l ≠ .ok v):=j;clear j HX;go_wp2;go_ret;exact⟨D.out,_,rfl,fun v hv=>absurd hv (G.out v)⟩
 have h:Hid (Lib.atoiAll l=.ok x):=A;clear A HX;by_cases hr : -10000<=x/\x<=10000
 ·obtain⟨r1,r2⟩:=hr;obtain⟨q,M⟩:=nm_ (x.tdiv 100);obtain⟨m,L⟩:=nm_ (x.tmod 100);have hq:x.tdiv 100=q:=M.out;have K:x.tmod 100=m:=L.out;have q1 : -100<=q/\q<=100:=by
   have I:=Int.mul_tdiv_add_tmod x 100;have J:m.natAbs<100:=(by rw[<-K];have:=WyZ x 100;rw[this];exact Nat.mod_lt _ (by decide));rw[hq,K] at I;omega
  have Z : -100<=m/\m<=100:=by
   have J:m.natAbs<100:=(by rw[<-K];have:=WyZ x 100;rw[this];exact Nat.mod_lt _ (by decide));omega
  obtain⟨q1,q2⟩:=q1;obtain⟨Z,m2⟩:=Z;go_wp2;go_ret;refine⟨D.out,_,rfl,?_⟩;intro v hv _ _;rw[h.out] at hv;cases hv
  rw[M.out,L.out]
 have HR:Hid (¬ (-10000<=x/\x<=10000)):=hr;clear hr;go_wp2;go_ret;refine⟨D.out,_,rfl,?_⟩;intro v hv I J;rw[h.out] at hv;cases hv
 exact absurd ⟨I,J⟩ HR.out
def p1 (l:List UInt8):List UInt8:=(Lib.cut l [32,60]).1
def p2 (l:List UInt8):List UInt8:=(Lib.cut (Lib.cut l [32,60]).2.1 [62,32]).1
def p3 (l:List UInt8):List UInt8:=(Lib.cut (Lib.cut (Lib.cut l [32,60]).2.1 [62,32]).2.1 [32]).1
def p4 (l:List UInt8):List UInt8:=(Lib.cut (Lib.cut (Lib.cut l [32,60]).2.1 [62,32]).2.1 [32]).2.1
theorem TY (s sep:List UInt8):(Lib.cut s sep).1.length<=s.length:=by
 unfold Lib.cut;split
 ·simp only[List.length_take];omega
 exact Wz8 _
theorem R6 (s sep:List UInt8):(Lib.cut s sep).2.1.length<=s.length:=by
 unfold Lib.cut;split
 ·simp only[Wy9];omega
 simp
def PP (l:List UInt8) (p:Per):Prop:=p.name.length<=l.length/\p.mail.length<=l.length/\∀ v,Lib.parseIntB 64 (p3 l)=.ok v->p.name=p1 l/\p.mail=p2 l/\p.time=v/\PZ (p4 l) p.zone
def qx8 (l:List UInt8) (e:Ending):Prop := ∃ p,e=.returned (.agg (x8 p))/\PP l p
theorem results212:f212.results=#[.cell 2 45]:=by kernel_rfl
theorem size45:(prog.info? 45).map (·.size)=some 4:=by kernel_rfl
theorem R7 (l:List UInt8) (hl:l.length<=1000000) (w:World) (he:Ers w) (hm:Mx w):Calls prog 212 #[.string ⟨l.toArray⟩] w fun e w'=>Below w.heap.size w w'/\qx8 l e:=by
 obtain⟨S,HS⟩:=nm_ (⟨l.toArray⟩:ByteArray);obtain⟨O,H1⟩:=nm_ (⟨(p1 l).toArray⟩:ByteArray);obtain⟨V,H2⟩:=nm_ (⟨(p2 l).toArray⟩:ByteArray);obtain⟨A3,H3⟩:=nm_ (⟨(p3 l).toArray⟩:ByteArray);obtain⟨A4,H4⟩:=nm_ (⟨(p4 l).toArray⟩:ByteArray);obtain⟨r1,K1⟩:=nm_ ((Lib.cut l [32,60]).2.1);obtain⟨r2,K2⟩:=nm_ ((Lib.cut r1 [62,32]).2.1);obtain⟨R1,L1⟩:=nm_ (⟨r1.toArray⟩:ByteArray)
 obtain⟨R2,L2⟩:=nm_ (⟨r2.toArray⟩:ByteArray);obtain⟨f1,F1⟩:=nm_ ((Lib.cut l [32,60]).2.2);obtain⟨f2,F2⟩:=nm_ ((Lib.cut r1 [62,32]).2.2);obtain⟨f3,F3⟩:=nm_ ((Lib.cut r2 [32]).2.2);have q1:Hid (r1.length<=l.length):=hid (by rw[<-K1.out];exact R6 _ _);have q2:Hid (r2.length<=l.length):=hid (by rw[<-K2.out];exact Wz9 (R6 _ _) q1.out)
 have q3:Hid ((p3 l).length<=l.length):=hid (by unfold p3;rw[K1.out,K2.out];exact Wz9 (TY _ _) q2.out);have q4:Hid ((p4 l).length<=l.length):=hid (by unfold p4;rw[K1.out,K2.out];exact Wz9 (R6 _ _) q2.out);have q5:Hid ((p1 l).length<=l.length):=hid (TY _ _)
 have q6:Hid ((p2 l).length<=l.length):=hid (by unfold p2;rw[K1.out];exact Wz9 (TY _ _) q1.out);obtain⟨G,HG⟩:=nm_ w.heap.size;obtain⟨w0,L⟩:=nm_ (w.alloc (.cells #[.string ⟨#[]⟩,.string ⟨#[]⟩,.int .i64 0,.int .i64 0] 45));have ah:Hid (Below G w w0):=hid (by rw[<-L.out,<-HG.out];exact(Below.refl _ w).alloc (Wz8 _) _)
 have ac:Hid (G<w0.heap.size):=hid (by rw[<-L.out,<-HG.out];simp);have aw:Hid (w0.heap[G]? = some (.cells #[.string ⟨#[]⟩,.string ⟨#[]⟩,.int .i64 0,.int .i64 0] 45 (0,0))):=hid (by rw[<-L.out,<-HG.out];exact heap_alloc_new w _);have HE:Hid (∀ W,Below G w W->Ers W):=fun W I=>he.below (by rw[HG.out];exact I)
 have HM:Hid (∀ W,Below G w W->Mx W):=fun W I=>hm.below (by rw[HG.out];exact I);have C1:Hid (∀ W,Below G w W->Calls prog 174 #[.string S,.string ⟨#[32,60]⟩] W fun e w'=>e=.returned (.tuple #[.string O,.string R1,.bool f1])/\∃ q,w'=W.drewN q):=fun W I=>by
  rw[<-HS.out,<-H1.out,<-L1.out,<-K1.out,<-F1.out];exact V9 l [32,60] W hl (HM.out W I)
 have C2:Hid (∀ W,Below G w W->Calls prog 174 #[.string R1,.string ⟨#[62,32]⟩] W fun e w'=>e=.returned (.tuple #[.string V,.string R2,.bool f2])/\∃ q,w'=W.drewN q):=fun W I=>by
  rw[<-L1.out,<-H2.out,<-L2.out,<-K2.out,<-F2.out];unfold p2;rw[K1.out];exact V9 r1 [62,32] W (Wz9 q1.out hl) (HM.out W I)
 have C3:Hid (∀ W,Below G w W->Calls prog 174 #[.string R2,.string ⟨#[32]⟩] W fun e w'=>e=.returned (.tuple #[.string A3,.string A4,.bool f3])/\∃ q,w'=W.drewN q):=fun W I=>by
  rw[<-L2.out,<-H3.out,<-H4.out,<-F3.out];unfold p3 p4;rw[K1.out,K2.out];exact V9 r2 [32] W (Wz9 q2.out hl) (HM.out W I)
 have C4:Hid (∀ W,Below G w W->Calls prog 138 #[.string A3,.int .i64 10,.int .i64 64] W fun e w'=>Below W.heap.size W w'/\PA (Lib.parseIntB 64 (p3 l)) e):=fun W I=>by
  rw[<-H3.out];exact K9 _ (Wz9 q3.out hl) W (HE.out W I)
 have C5:Hid (∀ W,Below G w W->Calls prog 233 #[.string A4] W fun e w'=>Below W.heap.size W w'/\qx7 (p4 l) e):=fun W I=>by
  rw[<-H4.out];exact CQ _ (Wz9 q4.out hl) W (HE.out W I)
 have ak:Hid (∀ (p:Per) J,Below G w J->Below w0.heap.size w0 J->PP l p->J.there G 0 4->(Below w.heap.size w (J.setCells G 0 (x8 p).toList)/\qx8 l (.returned (.agg (x8 p))))):=fun p J a b c d=>⟨by rw[HG.out];exact zW (Wz8 _) _ _ _ _ a,p,rfl,c⟩;have K:Hid (∀ J,Below w0.heap.size w0 J->J.there G 0 4):=fun J h j hj=>by
  have hh:=(h.block G ac.out).trans aw.out;refine⟨?_,frozen_of_row J G (0+j) _ _ hh⟩;rw[cell_of_row J G (0+j) _ _ _ hh];have:j=0 ∨ j=1 ∨ j=2 ∨ j=3:=by omega
  rcases this with rfl | rfl | rfl | rfl <;> rfl
 rw[HS.out];clear he hm;go_enter func212,ntmps212;go_wp2_with fail
 rw[HG.out,L.out];refine(C1.out w0 ah.out).mono ?_;rintro ev w' ⟨rfl,n1,rfl⟩;have Y:Hid (Below G w (w0.drewN n1)):=vX _ _ ah.out;have ai:Hid (Below w0.heap.size w0 (w0.drewN n1)):=⟨rfl,rfl,rfl,Wz8 _,fun _ _=>rfl⟩;generalize w0.drewN n1=w1 at Y ai ⊢;go_wp2_with fail
 refine(C2.out _ Y.out).mono ?_;rintro ev w' ⟨rfl,n2,rfl⟩;have Z:Hid (Below G w (w1.drewN n2)):=vX _ _ Y.out;have aj:Hid (Below w0.heap.size w0 (w1.drewN n2)):=vX _ _ ai.out;generalize w1.drewN n2=w2 at Z aj ⊢;go_wp2_with fail
 refine(C3.out _ Z.out).mono ?_;rintro ev w' ⟨rfl,n3,rfl⟩;have a6:Hid (Below G w (w2.drewN n3)):=vX _ _ Z.out;have M:Hid (Below w0.heap.size w0 (w2.drewN n3)):=vX _ _ aj.out;generalize w2.drewN n3=w3 at a6 M ⊢;go_wp2_with fail
 refine(C4.out _ a6.out).mono ?_;rintro ev w4 ⟨ae,x,am,rfl,hx⟩;have a7:Hid (Below G w w4):=a6.out.trans (ae.mono (by have:=M.out.size;have:=ac.out;omega));have D:Hid (Below w0.heap.size w0 w4):=M.out.trans (ae.mono M.out.size)
 have HX:Hid ((am=.nilIface/\Lib.parseIntB 64 (p3 l)=.ok x) ∨ ((∃ N,am=.iface 311 (.pointer (some ⟨N,0,none⟩)))/\∀ v,Lib.parseIntB 64 (p3 l) ≠ .ok v)):=hx;clear ae hx;rcases HX.out with ⟨rfl,ap⟩ | ⟨⟨N,rfl⟩,ao⟩
 ·have au:Hid (Lib.parseIntB 64 (p3 l)=.ok x):=ap;clear ap HX;go_wp2_with fail
  refine(C5.out _ a7.out).mono ?_;rintro ev w5 ⟨ag,z,rfl,hz⟩;have ar:Hid (Below G w w5):=a7.out.trans (ag.mono (by have:=D.out.size;have:=ac.out;omega));have ad:Hid (Below w0.heap.size w0 w5):=D.out.trans (ag.mono D.out.size);have a8:Hid (PP l ⟨p1 l,p2 l,x,z⟩):=⟨q5.out,q6.out,fun v hv=>by
   rw[au.out] at hv;cases hv
   exact⟨rfl,rfl,rfl,hz⟩⟩
  clear ag hz;have av:Hid (x8 ⟨p1 l,p2 l,x,z⟩=#[.string O,.string V,.int .i64 x,.int .i64 z]):=hid (by unfold x8;rw[<-H1.out,<-H2.out]);have T1:Hid (w5.there G 0 (#[.string O,.string V,.int .i64 x,.int .i64 z] : Array Value).size):=K.out w5 ad.out
  have T2:Hid ((prog.info? 45).map (·.size)=some (#[.string O,.string V,.int .i64 x,.int .i64 z] : Array Value).size):=size45;have T3:Hid ((#[.string O,.string V,.int .i64 x,.int .i64 z] : Array Value).all (·.oneCell')=true):=hid (all_oneCell_toArray (fun v hv=>by simp only[Wqj,WyJ,or_false] at hv;rcases hv with rfl | rfl | rfl | rfl <;> rfl))
  go_wp2_with (refine wpList_store_mid rfl 45 _ _ rfl G 0 #[.string O,.string V,.int .i64 x,.int .i64 z] rfl rfl T1.out T2.out T3.out ?_)
  have A:=ak.out ⟨p1 l,p2 l,x,z⟩ w5 ar.out ad.out a8.out (K.out w5 ad.out);rw[av.out] at A;refine bodyPost_ret (v:=.agg #[.string O,.string V,.int .i64 x,.int .i64 z]) (yq results212 _ _ G [.string O,.string V,.int .i64 x,.int .i64 z] _ rfl (World.rangeAt_setCells_same w5 G 0 _ T1.out) underlying45 rfl size45) rfl ?_;exact A
 have a8:Hid (PP l ⟨[],[],0,0⟩):=⟨(by simp),(by simp),fun v hv=>absurd hv (ao v)⟩;clear ao HX;have T1:Hid (w4.there G 0 (#[.string ⟨#[]⟩,.string ⟨#[]⟩,.int .i64 0,.int .i64 0] : Array Value).size):=K.out w4 D.out;have T2:Hid ((prog.info? 45).map (·.size)=some (#[.string ⟨#[]⟩,.string ⟨#[]⟩,.int .i64 0,.int .i64 0] : Array Value).size):=size45
 have T3:Hid ((#[.string ⟨#[]⟩,.string ⟨#[]⟩,.int .i64 0,.int .i64 0] : Array Value).all (·.oneCell')=true):=hid (all_oneCell_toArray (fun v hv=>by simp only[Wqj,WyJ,or_false] at hv;rcases hv with rfl | rfl | rfl | rfl <;> rfl))
 go_wp2_with (refine wpList_store_mid rfl 45 _ _ rfl G 0 #[.string ⟨#[]⟩,.string ⟨#[]⟩,.int .i64 0,.int .i64 0] rfl rfl T1.out T2.out T3.out ?_)
 have A:=ak.out ⟨[],[],0,0⟩ w4 a7.out D.out a8.out (K.out w4 D.out);refine bodyPost_ret (v:=.agg #[.string ⟨#[]⟩,.string ⟨#[]⟩,.int .i64 0,.int .i64 0]) (yq results212 _ _ G [.string ⟨#[]⟩,.string ⟨#[]⟩,.int .i64 0,.int .i64 0] _ rfl (World.rangeAt_setCells_same w4 G 0 _ T1.out) underlying45 rfl size45) rfl ?_;exact A
structure L2 (b:Nat) (x y:ByteArray) (W:World):Prop where
 lt:b<W.heap.size
 c0:W.cell? ⟨b,0,none⟩=some (.string x)
 c1:W.cell? ⟨b,1,none⟩=some (.string y)
theorem L2.below {b:Nat} {x y:ByteArray} {W j:World} (h:L2 b x y W) (hb:Below W.heap.size W j):L2 b x y j :=
 ⟨Wq2 h.lt hb.size,(hb.cell (p:=⟨b,0,none⟩) h.lt).trans h.c0,(hb.cell (p:=⟨b,1,none⟩) h.lt).trans h.c1⟩
def yV (zs:List Int):List UInt8:=(Hx.hexOf zs).map fun n=>UInt8.ofNat n.toNat
theorem xj (zs:List Int):(yV zs).length=2*zs.length:=by simp[yV,Hx.hexOf_len]
theorem qu {P:Program} {fn:Func} {p q:Tmp} {ty:TypeId} (h:fn.results=#[.cell p ty,.tmp q]) (tmps:Array Value) (w:World) (g:Nat) (cs:List Value) (d:TypeDesc)
  (A:tmps.getD p undef=.pointer (some ⟨g,0,none⟩)) (hc:w.rangeAt g 0 cs) (D:P.underlying ty=some d) (hd:d.isRow=true) (hi:(P.info? ty).map (·.size)=some cs.length) :
  (results fn tmps).run P w=.ok (.tuple #[.agg cs.toArray,tmps.getD q undef]) w:=by
 have j:tmps[p]?.getD undef=.pointer (some ⟨g,0,none⟩):=by simpa using A
 simp[results,h,j,asAddr,run_loadVar_mid w g 0 ty cs d hc D hd hi]
theorem size72:(prog.info? 72).map (·.size)=some 4:=by kernel_rfl
theorem Sl.from {w:World} {a:Option Addr} {cap:Nat} {l:List Int} (h:Sl w a cap l) (j:Nat) (I:j<=l.length) (h0:0<l.length):Sl w (if cap=j then a else a.map (fun x=>x.add j)) (cap-j) (l.drop j):=by
 obtain⟨b,off,rfl,A,D⟩:=h.at_ h0;have hc:=h.capl;refine⟨by rw[Wy9];omega,fun G=>?_,fun e=>by split at e <;> cases e⟩;rw[Wy9] at G;rw[if_neg (by omega)];refine⟨b,off+j,by rw[Option.map_some,x7],A,fun i hi=>?_⟩;rw[Wy9] at hi;rw[Nat.add_assoc,D (j+i) (by omega)];simp[List.getD_eq_getElem?_getD,List.getElem?_drop]
section
variable {w w0 : World} {ops : Array Oper} {rest : List Oper} {o : Oper} {a : Act} {Q : Exit → Act → World → Prop}
end
theorem Sl.grown {w w':World} {a:Option Addr} {cap:Nat} {l:List Int} {r:Option Nat} (h:Sl w a cap l) (D:w.grownBy w' r) (j:∀ b off,a=some ⟨b,off,none⟩->some b ≠ r):Sl w' a cap l :=
 ⟨h.capl,fun h0=>by
  obtain⟨b,off,e1,A,G⟩:=h.at_ h0
  exact⟨b,off,e1,Wq2 A D.size,fun i hi=>(World.cell?_of_block (a:=⟨b,off+i,none⟩) (D.block b A (j b off e1))).trans (G i hi)⟩,h.nil⟩
end Go.Proofs.YtdnphaganajejaaGreatDoor
namespace Go.Proofs.YtdnphaganajejaaGreatDoor
open Go.Proofs.Tryz
theorem CX (a b sep:List UInt8) (h:Lib.occAt (a++(sep++b)) sep a.length=true) (A:∀ j,j<a.length->Lib.occAt (a++(sep++b)) sep j=false):Lib.cut (a++(sep++b)) sep=(a,b,true):=by
 have hi:Lib.index (a++(sep++b)) sep=(a.length:Nat):=Lib.index_first (by simp) h A;unfold Lib.cut;rw[hi,if_pos (by omega)];simp
theorem Kz (a b sep:List UInt8):Lib.occAt (a++(sep++b)) sep a.length=true:=by
 simp[Lib.occAt]
theorem R8 (s sep:List UInt8) (j k:Nat) (c:UInt8) (hc:sep[k]? = some c) (D:s[j+k]? ≠ some c):Lib.occAt s sep j=false:=by
 cases h:Lib.occAt s sep j with
 | false=>rfl
 | true =>
  refine absurd ?_ D;unfold Lib.occAt at h;obtain⟨t,G⟩:=List.isPrefixOf_iff_prefix.1 h;obtain⟨A,_⟩:=List.getElem?_eq_some_iff.1 hc;rw[<-List.getElem?_drop,<-G,List.getElem?_append_left A];exact hc
theorem vW (a b:List UInt8) (c:UInt8) (h:c ∉ a):Lib.cut (a++c :: b) [c]=(a,b,true):=by
 refine CX a b [c] (Kz a b [c]) (fun j A=>R8 _ _ j 0 c rfl ?_);rw[WyK,List.getElem?_append_left A];exact fun e=>h (List.mem_of_getElem? e)
theorem qz5 (a b:List UInt8) (c d:UInt8) (D:c ≠ d) (h:d ∉ a):Lib.cut (a++c :: d :: b) [c,d]=(a,b,true):=by
 refine CX a b [c,d] (Kz a b [c,d]) (fun j G=>R8 _ _ j 1 d rfl ?_);rcases Wy4 (j+1) a.length with A | A
 ·rw[List.getElem?_append_left A];exact fun e=>h (List.mem_of_getElem? e)
 rw[List.getElem?_append_right A,show j+1-a.length=0 from by omega];simpa using D
theorem zyJ (a b:List UInt8) (c d:UInt8) (h:c ∉ a):Lib.cut (a++c :: d :: b) [c,d]=(a,b,true):=by
 refine CX a b [c,d] (Kz a b [c,d]) (fun j A=>R8 _ _ j 0 c rfl ?_);rw[WyK,List.getElem?_append_left A];exact fun e=>h (List.mem_of_getElem? e)
theorem qz6 (q:Per) (j:okP q):p1 (xk q)=q.name/\p2 (xk q)=q.mail/\p3 (xk q)=Lib.decDigits q.time.toNat/\p4 (xk q)=xy q.zone:=by
 obtain⟨⟨_,nb,_⟩,⟨_,G,_⟩,_,_,_⟩:=j;have k1:Lib.cut (xk q) [32,60]=(q.name,q.mail++62 :: 32 :: (Lib.decDigits q.time.toNat++32 :: xy q.zone),true):=qz5 _ _ _ _ (by decide) (fun h=>(nb 60 h).1 rfl)
 have A:Lib.cut (q.mail++62 :: 32 :: (Lib.decDigits q.time.toNat++32 :: xy q.zone)) [62,32]=(q.mail,Lib.decDigits q.time.toNat++32 :: xy q.zone,true):=zyJ _ _ _ _ (fun h=>(G 62 h).2.1 rfl);have D:Lib.cut (Lib.decDigits q.time.toNat++32 :: xy q.zone) [32]=(Lib.decDigits q.time.toNat,xy q.zone,true):=vW _ _ _ (fun h=>by
  have I:=((TV q.time.toNat).2.1 32 h).1;have J:(32:UInt8).toNat=32:=rfl;omega)
 unfold p1 p2 p3 p4;rw[k1];simp only;rw[A];simp only;rw[D];exact⟨trivial,trivial,rfl,rfl⟩
def valF (acc:Nat) (l:List UInt8):Nat:=l.foldl (fun n x=>n*10+(x.toNat-48)) acc
theorem N9 {acc d k E:Nat} (hd:d<=9) (h:(acc+1)*10 ^ (k+1)<=E):(acc*10+d+1)*10 ^ k<=E/\acc*10+d<E/\acc*10<E:=by
 rw[Nat.pow_succ] at h;have h0:0<10 ^ k:=Nat.pow_pos (by decide);have j:(acc*10+d+1)*10 ^ k<=(acc+1)*(10 ^ k*10):=by
  rw[Nat.mul_comm (10 ^ k) 10,<-Nat.mul_assoc];exact Nat.mul_le_mul_right _ (by omega)
 have A:acc*10+d+1<=(acc*10+d+1)*10 ^ k:=Nat.le_mul_of_pos_right _ h0;omega
theorem zyK (M:Nat) (h:1000000000000000000<=M):∀ (l:List UInt8) (acc:Nat),(∀ x ∈ l,JY x)->(acc+1)*10 ^ l.length<=1000000000000000000->Lib.parseUintM M acc l=.ok (valF acc l)
 | [],acc,_,_=>rfl
 | c :: r,acc,hd,hb=>by
  have hc:=hd c (by simp);unfold JY at hc;obtain⟨b1,j,b3⟩:=N9 (d:=c.toNat-48) (by omega) hb;rw[Lib.parseUintM,if_pos hc,if_neg (by omega),if_neg (by omega)];exact zyK M h r _ (fun x hx=>hd x (by simp[hx])) b1
theorem F7:∀ (l:List UInt8) (acc:Nat),(∀ x ∈ l,JY x)->(acc+1)*10 ^ l.length<=1000000000000000000->Lib.parseUint10 acc l=.ok (valF acc l)
 | [],acc,_,_=>rfl
 | c :: r,acc,hd,hb=>by
  have hc:=hd c (by simp);unfold JY at hc;obtain⟨b1,h,b3⟩:=N9 (d:=c.toNat-48) (by omega) hb;rw[Lib.parseUint10,if_pos hc,if_neg (by omega),if_neg (by omega)];exact F7 r _ (fun x hx=>hd x (by simp[hx])) b1
theorem OK (t:Nat) (D:t<=1099511627776):Lib.parseIntB 64 (Lib.decDigits t)=.ok (t:Int):=by
 obtain⟨d1,d2,d3,d4⟩:=TV t;have A:=uY t D;have j:Lib.parseUintM (2 ^ 64-1) 0 (Lib.decDigits t)=.ok t:=by
  have h:=zyK (2 ^ 64-1) (by decide) (Lib.decDigits t) 0 d2 (by
   have:10 ^ (Lib.decDigits t).length<=10 ^ 13:=Nat.pow_le_pow_right (by decide) A;omega)
  rw[h];exact congrArg Lib.NumEnd.ok d1
 cases hd:Lib.decDigits t with
 | nil=>rw[hd] at d3;simp at d3
 | cons c r =>
  have hc:JY c:=d2 c (by rw[hd];simp);unfold JY at hc;rw[hd] at j;unfold Lib.parseIntB Lib.parseUintB;simp only;rw[if_neg (show ¬ (c.toNat=43 ∨ c.toNat=45) by omega),if_neg (show ¬ (c :: r=[]) by simp),j];simp only;rw[if_neg (by omega),if_neg (by omega),if_neg (by omega)]
theorem OV (z:Int) (h1 : -840<=z) (h2:z<=840) (L:Int) (h:PZ (xy z) L):L=z:=by
 obtain⟨j,G⟩:∃ x,x=z.natAbs / 60:=⟨_,rfl⟩;obtain⟨mm,I⟩:∃ x,x=z.natAbs % 60:=⟨_,rfl⟩;have Y:j<100:=by omega
 have Z:mm<100:=by omega
 have k1:=vx (j / 10) (by omega);have M:=vx (j % 10) (by omega);have O:=vx (mm / 10) (by omega);have V:=vx (mm % 10) (by omega);have J:Lib.parseUint10 0 (two j++two mm)=.ok (j*100+mm):=by
  rw[F7 (two j++two mm) 0 (by
   intro x hx;simp only[two,WyQ,WyX,Wqj,WyJ,or_false] at hx;unfold JY;rcases hx with rfl | rfl | rfl | rfl <;> omega) (by simp[two])]
  refine congrArg Lib.NumEnd.ok ?_;simp only[valF,two,WyQ,WyX,List.foldl_cons,List.foldl_nil,k1,M,O,V];omega
 have A:¬ (two j++two mm=[]):=by simp[two]
 by_cases K:z<0
 ·have hv:Lib.atoiAll (xy z)=.ok (-((j*100+mm:Nat):Int)):=by
   unfold xy;rw[if_pos K,<-G,<-I];unfold Lib.atoiAll Lib.parseMag;simp only;rw[if_pos (show ((45:UInt8).toNat=43 ∨ (45:UInt8).toNat=45) by decide),if_neg A,J];simp only;rw[if_neg (by omega),if_neg (by omega),if_pos (by decide)]
  have D:=h _ hv (by omega) (by omega);rw[D,Int.neg_tdiv,Int.neg_tmod,Wy6 (by omega),Wy7 (by omega)];omega
 have hv:Lib.atoiAll (xy z)=.ok ((j*100+mm:Nat):Int):=by
  unfold xy;rw[if_neg K,<-G,<-I];unfold Lib.atoiAll Lib.parseMag;simp only;rw[if_pos (show ((43:UInt8).toNat=43 ∨ (43:UInt8).toNat=45) by decide),if_neg A,J];simp only;rw[if_neg (by omega),if_neg (by omega),if_neg (by decide)]
 have D:=h _ hv (by omega) (by omega);rw[D,Wy6 (by omega),Wy7 (by omega)];omega
theorem qz7 (q:Per) (G:okP q) (p:Per) (h:PP (xk q) p):p=q:=by
 obtain⟨c1,c2,c3,c4⟩:=qz6 q G;have b:=G.2.2;obtain⟨_,_,D⟩:=h;rw[c1,c2,c3,c4] at D;obtain⟨e1,j,I,J⟩:=D _ (OK q.time.toNat (by omega));have A:=OV q.zone b.2.1 b.2.2 _ J;obtain⟨a1,a2,a3,a4⟩:=p;obtain⟨b1,K,b3,b4⟩:=q;simp only at e1 j I A b;subst e1;subst j;subst A;congr 1;omega
end Go.Proofs.YtdnphaganajejaaGreatDoor
namespace Go.Proofs.YtdnphaganajejaaGreatDoor.Hx
open Go.Proofs.Tryz
open Go.RowKit
theorem qz8 (l:List Int) (k:Nat) (h:k<l.length) (hb:∀ n ∈ l,0<=n/\n<256):sgn (strOfNums l) k=l.getD k 0:=by
 have j:=hb _ (Wz4 h);unfold sgn strOfNums;simp[h];omega
theorem zyV (n:Int) (h:0<=n/\n<16):0<=dig n/\dig n<256:=by unfold dig;split <;> omega
theorem zyW (n:Int) (h:0<=n/\n<16):hv (dig n)=n:=by
 unfold hv dig;by_cases a:n<10
 ·rw[if_pos a,if_pos (by omega)];omega
 rw[if_neg a,if_neg (by omega),if_pos (by omega)];omega
theorem zyY (zs:List Int) (j:∀ n ∈ zs,0<=n/\n<256):∀ n ∈ hexOf zs,0<=n/\n<256:=by
 intro n h;simp only[hexOf,List.mem_flatMap] at h;obtain⟨x,hx,h⟩:=h;have:=j x hx;simp at h;rcases h with rfl | rfl
 ·exact zyV _ (by omega)
 exact zyV _ (by omega)
theorem Sq:∀ (zs:List Int) (k:Nat),k<zs.length->(hexOf zs).getD (2*k) 0=dig (zs.getD k 0 / 16)/\(hexOf zs).getD (2*k+1) 0=dig (zs.getD k 0 % 16)
 | x :: r,0,_=>by simp[hexOf]
 | x :: r,k+1,h=>by
  have:=Sq r k (by simpa using h);have e:hexOf (x :: r)=dig (x / 16) :: dig (x % 16) :: hexOf r:=by simp[hexOf]
  rw[e,show 2*(k+1)=2*k+1+1 from by omega,show 2*k+1+1+1=(2*k+1)+1+1 from rfl];simpa using this
theorem F8 (zs:List Int) (G:zs.length=20) (j:∀ n ∈ zs,0<=n/\n<256) (k:Nat) (D:k<40):hv (sgn (strOfNums (hexOf zs)) k)=if k % 2=0 then zs.getD (k / 2) 0 / 16 else zs.getD (k / 2) 0 % 16:=by
 rw[qz8 _ k (by rw[hexOf_len];omega) (zyY zs j)];have hx:=j (zs.getD (k / 2) 0) (by rw[List.getD_eq_getElem?_getD,List.getElem?_eq_getElem (by omega)];exact Wz4 _);obtain⟨h0,A⟩:=Sq zs (k / 2) (by omega);by_cases h:k % 2=0
 ·rw[if_pos h,show k=2*(k / 2) from by omega,h0,show 2*(k / 2) / 2=k / 2 from by omega];exact zyW _ (by omega)
 rw[if_neg h];have e:(hexOf zs).getD k 0=(hexOf zs).getD (2*(k / 2)+1) 0:=by congr 1;omega
 rw[e,A];exact zyW _ (by omega)
theorem hex_good (zs:List Int) (A:zs.length=20) (h:∀ n ∈ zs,0<=n/\n<256):good (strOfNums (hexOf zs)):=fun k j=>by
 have hx:=h (zs.getD (k / 2) 0) (by rw[List.getD_eq_getElem?_getD,List.getElem?_eq_getElem (by omega)];exact Wz4 _);rw[F8 zs A h k j];split <;> omega
theorem Lw (l:List Int) (i j:Nat) (v:Int) (hi:i<l.length):(l.set i v).getD j 0=if i=j then v else l.getD j 0:=by
 rw[List.getD_eq_getElem?_getD,List.getElem?_set];by_cases h:i=j
 ·subst h;simp[hi]
 simp[h]
theorem Ux (zs:List Int) (G:zs.length=20) (A:∀ n ∈ zs,0<=n/\n<256):∀ k,k<=40->∀ j,j<20->(idAt (strOfNums (hexOf zs)) k).getD j 0=if 2*j+1<k then zs.getD j 0 else if 2*j<k then zs.getD j 0 / 16 else 0
 | 0,_,j,hj=>by
  rw[if_neg (by omega),if_neg (by omega)]
  simp only[idAt,zeros,List.getD_eq_getElem?_getD,List.getElem?_replicate];split <;> rfl
 | k+1,hk,j,hj=>by
  have I:=Ux zs G A k (by omega)
  have hx:=A (zs.getD j 0) (by rw[List.getD_eq_getElem?_getD,List.getElem?_eq_getElem (by omega)];exact Wz4 _)
  rw[idAt,Lw _ _ _ _ (by rw[idAt_len];omega),F8 zs G A k (by omega)]
  by_cases e:k / 2=j
  ·rw[if_pos e,I (k / 2) (by omega),e]
   by_cases D:k % 2=0
   ·rw[if_pos D,if_neg (by omega),if_neg (by omega),if_neg (by omega),if_pos (by omega)];omega
   ·rw[if_neg D,if_neg (by omega),if_pos (by omega),if_pos (by omega)];omega
  ·rw[if_neg e,I j hj]
   by_cases h:2*j+1<k
   ·rw[if_pos h,if_pos (by omega)]
   ·rw[if_neg h]
    by_cases J:2*j<k
    ·omega
    ·rw[if_neg J,if_neg (show ¬ 2*j+1<k+1 by omega),if_neg (show ¬ 2*j<k+1 by omega)]
theorem hex_back (zs:List Int) (h:zs.length=20) (G:∀ n ∈ zs,0<=n/\n<256):idAt (strOfNums (hexOf zs)) 40=zs:=by
 apply List.ext_getElem (by rw[idAt_len,h]);intro j A D;have:=Ux zs h G 40 (Wz8 _) j (by omega);rw[if_pos (by omega)] at this;simpa [A,D] using this
end Go.Proofs.YtdnphaganajejaaGreatDoor.Hx
namespace Go.Proofs.YtdnphaganajejaaGreatDoor
open Go.Proofs.Tryz
theorem zx0 (id fr:List Int) (j:id.length=20) (A:∀ n ∈ id,0<=n/\n<256) (h:PId (yV id) fr):fr=id:=by
 have e:(⟨(yV id).toArray⟩:ByteArray)=strOfNums (Hx.hexOf id):=rfl;have D:=h.2.2 ⟨by rw[xj,j],by rw[e];exact Hx.hex_good id j A⟩;rw[D,e];exact Hx.hex_back id j A
end Go.Proofs.YtdnphaganajejaaGreatDoor
namespace Go.Proofs.YtdnphaganajejaaGreatDoor
open Go.Proofs.Tryz
open Go.RowKit
theorem results20:f20.results=#[.cell 2 72]:=by kernel_rfl
theorem Kq (p:Per) (w:World):Calls prog 20 #[.agg (x8 p)] w fun e w'=>e=.returned (.agg (x8 p))/\Below w.heap.size w w':=by
 obtain⟨N,D⟩:=nm_ (⟨p.name.toArray⟩:ByteArray);obtain⟨M,A⟩:=nm_ (⟨p.mail.toArray⟩:ByteArray);obtain⟨t,G⟩:=nm_ p.time;obtain⟨z,I⟩:=nm_ p.zone;have h:Hid (x8 p=#[.string N,.string M,.int .i64 t,.int .i64 z]):=hid (by unfold x8;rw[D.out,A.out,G.out,I.out])
 have j:Hid (∀ o1 o2,Below w.heap.size w ((w.alloc o1).alloc o2)):=fun o1 o2=>((Below.refl _ w).alloc (Wz8 _) _).alloc (by simp) _;rw[h.out];go_enter func20,ntmps20;go_wp2
 have hr:World.rangeAt ((w.alloc (.cells #[.string N,.string M,.int .i64 t,.int .i64 z] 45)).alloc (.cells #[.string N,.string M,.int .i64 t,.int .i64 z] 72)) (w.heap.size+1) 0 [.string N,.string M,.int .i64 t,.int .i64 z]:=by
  have:=heap_alloc_new (w.alloc (.cells #[.string N,.string M,.int .i64 t,.int .i64 z] 45)) (.cells #[.string N,.string M,.int .i64 t,.int .i64 z] 72);simp only[World.size_alloc] at this;exact zw this
 exact bodyPost_ret (v:=.agg #[.string N,.string M,.int .i64 t,.int .i64 z]) (yq results20 _ _ (w.heap.size+1) _ _ rfl hr underlying72 rfl size72) rfl ⟨rfl,j.out _ _⟩
end Go.Proofs.YtdnphaganajejaaGreatDoor
