import Derived.Test.YticgindfipobiaaGreatDoorMn12
import Derived.Test.YticgindfipobiaaGreatDoorMn10
set_option linter.unusedSimpArgs false
set_option linter.unusedVariables false
set_option maxRecDepth 20000
set_option maxHeartbeats 4000000
namespace Go.Proofs.YticgindfipobiaaGreatDoor
open Go.RowKit
theorem qX (v:Value) (w:World):(callFunc 124 #[v]).run Tryz.prog w=.ok (.enter 124 #[v]) w:=by kernel_rfl
theorem enter55 (v:Value) (w:World):(callFunc 125 #[v]).run Tryz.prog w=.ok (.enter 125 #[v]) w:=by kernel_rfl
theorem jj (v:Value) (w:World):(callFunc 126 #[v]).run Tryz.prog w=.ok (.enter 126 #[v]) w:=by kernel_rfl
theorem ZK (v v2:Value) (w:World):(callFunc 127 #[v,v2]).run Tryz.prog w=.ok (.enter 127 #[v,v2]) w:=by kernel_rfl
theorem ZW (v:Value) (w:World):(callFunc 58 #[v]).run Tryz.prog w=.ok (.enter 58 #[v]) w:=by kernel_rfl
structure BoxL (G:Nat) (R:List Value) (kd:Int) (N P1 P2:ByteArray) (tm zn:Int) (M:ByteArray) (W:World):Prop where
 id:W.rangeAt G 0 R
 c20:W.cell? ⟨G,20,none⟩=some (.int .i64 kd)
 c21:W.cell? ⟨G,21,none⟩=some (.string N)
 c22:W.cell? ⟨G,22,none⟩=some (.string P1)
 c23:W.cell? ⟨G,23,none⟩=some (.string P2)
 c24:W.cell? ⟨G,24,none⟩=some (.int .i64 tm)
 c25:W.cell? ⟨G,25,none⟩=some (.int .i64 zn)
 c26:W.cell? ⟨G,26,none⟩=some (.string M)
theorem BoxL.below {G:Nat} {R:List Value} {kd:Int} {N P1 P2:ByteArray} {tm zn:Int} {M:ByteArray} {W W':World} (h:BoxL G R kd N P1 P2 tm zn M W) (hG:G<W.heap.size) (hb:Below W.heap.size W W'):BoxL G R kd N P1 P2 tm zn M W' :=
 ⟨fun j v hv=>(hb.cell (p:=⟨G,0+j,none⟩) hG).trans (h.id j v hv),(hb.cell (p:=⟨G,20,none⟩) hG).trans h.c20,(hb.cell (p:=⟨G,21,none⟩) hG).trans h.c21,(hb.cell (p:=⟨G,22,none⟩) hG).trans h.c22,(hb.cell (p:=⟨G,23,none⟩) hG).trans h.c23,(hb.cell (p:=⟨G,24,none⟩) hG).trans h.c24,(hb.cell (p:=⟨G,25,none⟩) hG).trans h.c25,(hb.cell (p:=⟨G,26,none⟩) hG).trans h.c26⟩
structure L2 (b:Nat) (x y:ByteArray) (W:World):Prop where
 lt:b<W.heap.size
 c0:W.cell? ⟨b,0,none⟩=some (.string x)
 c1:W.cell? ⟨b,1,none⟩=some (.string y)
theorem L2.below {b:Nat} {x y:ByteArray} {W W':World} (h:L2 b x y W) (hb:Below W.heap.size W W'):L2 b x y W' :=
 ⟨Nat.lt_of_lt_of_le h.lt hb.size,(hb.cell (p:=⟨b,0,none⟩) h.lt).trans h.c0,(hb.cell (p:=⟨b,1,none⟩) h.lt).trans h.c1⟩
theorem qj (w:World) (x y:ByteArray):L2 w.heap.size x y (w.alloc (.cells #[.string x,.string y] 9)):=⟨by simp,by simp,by simp⟩
structure L4 (b:Nat) (x y z u:ByteArray) (W:World):Prop where
 lt:b<W.heap.size
 c0:W.cell? ⟨b,0,none⟩=some (.string x)
 c1:W.cell? ⟨b,1,none⟩=some (.string y)
 c2:W.cell? ⟨b,2,none⟩=some (.string z)
 c3:W.cell? ⟨b,3,none⟩=some (.string u)
theorem L4.below {b:Nat} {x y z u:ByteArray} {W W':World} (h:L4 b x y z u W) (hb:Below W.heap.size W W'):L4 b x y z u W' :=
 ⟨Nat.lt_of_lt_of_le h.lt hb.size,(hb.cell (p:=⟨b,0,none⟩) h.lt).trans h.c0,(hb.cell (p:=⟨b,1,none⟩) h.lt).trans h.c1,(hb.cell (p:=⟨b,2,none⟩) h.lt).trans h.c2,(hb.cell (p:=⟨b,3,none⟩) h.lt).trans h.c3⟩
theorem jJ (w:World) (x y z u:ByteArray):L4 w.heap.size x y z u (w.alloc (.cells #[.string x,.string y,.string z,.string u] 9)):=⟨by simp,by simp,by simp,by simp,by simp⟩
def yQ:ByteArray:=⟨#[111,98,106,101,99,116]⟩
def yu:ByteArray:=⟨#[116,121,112,101]⟩
def xk:ByteArray:=⟨#[116,97,103]⟩
def qk:ByteArray:=⟨#[116,97,103,103,101,114]⟩
def ln2 (a b:List UInt8):List UInt8:=a++32 :: (b++[10])
def xw (zs:List Int):List UInt8:=(Hx.hexOf zs).map fun n=>UInt8.ofNat n.toNat
theorem uq (zs:List Int):(xw zs).length=2*zs.length:=by simp[xw,Hx.hexOf_len]
def x9 (t:Tg):List UInt8 :=
 ln2 yQ.data.toList (xw t.id)++(ln2 yu.data.toList (kN t.kind).data.toList++(ln2 xk.data.toList t.name++ln2 qk.data.toList (qq t.per)))++10 :: t.msg
theorem line2 (x y:ByteArray) (b:Nat) (w:World) (h:L2 b x y w) (hx:x.data.toList.length<=100) (hy:y.data.toList.length<=10000) :
  Calls Tryz.prog 124 #[.slice (some ⟨b,0,none⟩) 2 2] w fun e w'=>e=.returned (.string ⟨(ln2 x.data.toList y.data.toList).toArray⟩)/\Below w.heap.size w w':=by
 have hj:Lib.join (bl [x,y]) [32]=x.data.toList++32 :: y.data.toList:=by simp[bl,Lib.join,List.intercalate]
 have h2:=line_any b 0 2 [x,y] w (fun j v hv=>by
  match j,hv with
  | 0,hv=>simp at hv;subst hv;exact h.c0
  | 1,hv=>simp at hv;subst hv;exact h.c1
  | j+2,hv=>simp at hv) h.lt (by simp) (by simp) (by rw[hj];simp at hx hy ⊢;omega)
 rw[hj] at h2
 have he:x.data.toList++32 :: y.data.toList++[10]=ln2 x.data.toList y.data.toList:=by simp[ln2]
 rw[he] at h2
 exact h2
theorem letter4 (msg:List UInt8) (hm:msg.length<=10000) (x y z u:List UInt8) (b:Nat) (w:World) (h:L4 b ⟨x.toArray⟩ ⟨y.toArray⟩ ⟨z.toArray⟩ ⟨u.toArray⟩ w) (hx:x.length<=20000) (hy:y.length<=20000) (hz:z.length<=20000) (hu:u.length<=20000) :
  Calls Tryz.prog 127 #[.string ⟨msg.toArray⟩,.slice (some ⟨b,0,none⟩) 4 4] w (PostL (x++(y++(z++u))++10 :: msg) w):=by
 have hj:Lib.join (bl [⟨x.toArray⟩,⟨y.toArray⟩,⟨z.toArray⟩,⟨u.toArray⟩]) []=x++(y++(z++u)):=by simp[bl,Lib.join,List.intercalate]
 have h2:=letter_any msg (by omega) b 0 4 [⟨x.toArray⟩,⟨y.toArray⟩,⟨z.toArray⟩,⟨u.toArray⟩] w (fun j v hv=>by
  match j,hv with
  | 0,hv=>simp at hv;subst hv;exact h.c0
  | 1,hv=>simp at hv;subst hv;exact h.c1
  | 2,hv=>simp at hv;subst hv;exact h.c2
  | 3,hv=>simp at hv;subst hv;exact h.c3
  | j+4,hv=>simp at hv) h.lt (by simp) (by simp) (by rw[hj];simp;omega)
 rw[hj] at h2
 exact h2
theorem kN_len10 (k:Int):(kN k).data.toList.length<=10:=by
 unfold kN
 split
 ·decide
 ·split
  ·decide
  ·split
   ·decide
   ·split <;> decide
theorem j5 (p:Per) (h:okP p):(qq p).length<=1000:=by
 obtain⟨⟨n1,_⟩,⟨m1,_⟩,⟨t1,t2⟩,z1,z2⟩:=h
 have:=Zx p.time.toNat (by omega)
 simp[qq,vQ,two]
 omega
def PostT (t:Tg) (w:World) (e:Ending) (w':World):Prop:=Below w.heap.size w w'/\
 ((okG t/\∃ g cap:Nat,e=.returned (.tuple #[.slice (some ⟨g,0,none⟩) (x9 t).length cap,.nilIface])/\w.heap.size<=g/\Mk w' g cap (q8 (x9 t))) ∨ (¬ okG t/\e=.returned (.tuple #[.slice none 0 0,.iface 43 (.int .i64 23)])))
theorem writeTag_any (t:Tg) (hid20:t.id.length=20) (hidB:∀ n ∈ t.id,0<=n/\n<256) (h1:t.name.length<=1000000) (h4:t.msg.length<=1000000) (w:World) (ht:Tab w) :
  Calls Tryz.prog 86 #[.agg (tgV t).toArray] w (PostT t w):=by
 obtain⟨A,HA⟩:=nm_ ((tgV t).toArray)
 have HSZ:Hid (A.size=27):=hid (by rw[<-HA.out,List.size_toArray];exact y9 t hid20)
 obtain⟨G,HG⟩:=nm_ w.heap.size
 obtain⟨w0,HW0⟩:=nm_ (w.alloc (.cells A 163))
 have HX0:Hid (BoxG G t w0):=hid (by rw[<-HW0.out,<-HG.out,<-HA.out];exact box_alloc t hid20 w 163)
 have HB0:Hid (Below G w w0):=hid (by rw[<-HW0.out,<-HG.out];exact(Below.refl _ w).alloc (Nat.le_refl _) _)
 have hs0:G<w0.heap.size:=by rw[<-HW0.out,<-HG.out];simp
 have HIT:Hid (∀ w,Calls Tryz.prog 129 #[.agg A] w fun e w'=>BIs (okG t) e/\Below w.heap.size w w'):=fun w=>by rw[<-HA.out];exact isTag_any t hid20 h1 h4 w
 have HRX:Hid ((w.alloc (.cells A 163)).rangeAt w.heap.size 0 A.toList):=hid (zx (cs:=A.toList) (t:=163) (fr:=(0,0)) (by rw[Array.toArray_toList];exact heap_alloc_new w _))
 have HI71:Hid ((Tryz.prog.info? 163).map (·.size)=some A.toList.length):=hid (by rw[Array.length_toList,HSZ.out];kernel_rfl)
 rw[HA.out]
 go_enter Tryz.func86,Tryz.ntmps86
 go_wp2_with (refine wpList_load_mid rfl 163 _ rfl w.heap.size 0 rfl A.toList _ HRX.out Tryz.underlying163 rfl HI71.out ?_)
 rw[HW0.out]
 refine(HIT.out w0).mono ?_
 rintro ev w1 ⟨hb,hb1⟩
 have HB1:Hid (Below G w w1):=HB0.out.trans (hb1.mono (Nat.le_of_lt hs0))
 have HX1:Hid (BoxG G t w1):=HX0.out.below hs0 hb1
 have hs1:G<w1.heap.size:=Nat.lt_of_lt_of_le hs0 hb1.size
 clear hb1
 rcases x8 hb with ⟨hy1,rfl⟩ | ⟨hn1,rfl⟩
 rotate_left
 ·have HOK:Hid (¬ okG t):=hn1
  clear hn1 hb
  go_wp2
  go_ret2
  exact⟨by rw[HG.out];exact HB1.out,.inr ⟨HOK.out,rfl⟩⟩
 have HOK:Hid (okG t):=hy1
 clear hy1 hb
 obtain⟨R,HR⟩:=nm_ (row .u8 t.id)
 obtain⟨Kn,HK⟩:=nm_ (kN t.kind)
 obtain⟨Hxs,HHX⟩:=nm_ (strOfNums (Hx.hexOf t.id))
 obtain⟨kd,HKD⟩:=nm_ t.kind
 obtain⟨N,HNN⟩:=nm_ (⟨t.name.toArray⟩:ByteArray)
 obtain⟨M,HMM⟩:=nm_ (⟨t.msg.toArray⟩:ByteArray)
 obtain⟨P1,HP1⟩:=nm_ (⟨t.per.name.toArray⟩:ByteArray)
 obtain⟨P2,HP2⟩:=nm_ (⟨t.per.mail.toArray⟩:ByteArray)
 obtain⟨tm,HTM⟩:=nm_ t.per.time
 obtain⟨zn,HZN⟩:=nm_ t.per.zone
 obtain⟨Pt,HPT⟩:=nm_ (⟨(qq t.per).toArray⟩:ByteArray)
 obtain⟨S1,HS1⟩:=nm_ (⟨(ln2 yQ.data.toList (xw t.id)).toArray⟩:ByteArray)
 obtain⟨S2,HS2⟩:=nm_ (⟨(ln2 yu.data.toList (kN t.kind).data.toList).toArray⟩:ByteArray)
 obtain⟨S3,HS3⟩:=nm_ (⟨(ln2 xk.data.toList t.name).toArray⟩:ByteArray)
 obtain⟨S4,HS4⟩:=nm_ (⟨(ln2 qk.data.toList (qq t.per)).toArray⟩:ByteArray)
 obtain⟨TB,HTB⟩:=nm_ (x9 t)
 have HN60:Hid (t.name.length<=60):=HOK.out.2.1.2.1
 have HM2k:Hid (t.msg.length<=2000):=hid (by have:=HOK.out.2.2.2;unfold uz at this;rw[Bool.and_eq_true] at this;simpa using this.1)
 have HPL:Hid ((qq t.per).length<=1000):=j5 t.per HOK.out.2.2.1
 have CH:Hid (∀ W,Calls Tryz.prog 125 #[.agg R.toArray] W fun e w'=>e=.returned (.string Hxs)/\Below W.heap.size W w'):=fun W=>by
  rw[<-HR.out,<-HHX.out];exact Hx.hex_prog t.id W hid20 hidB
 have CL1:Hid (∀ W b,L2 b yQ Hxs W->Calls Tryz.prog 124 #[.slice (some ⟨b,0,none⟩) 2 2] W fun e w'=>e=.returned (.string S1)/\Below W.heap.size W w'):=fun W b h=>by
  rw[<-HS1.out]
  rw[<-HHX.out] at h
  exact line2 _ _ b W h (by decide) (by rw[strOfNums_data,List.length_map,Hx.hexOf_len];omega)
 have CL2:Hid (∀ W b,L2 b yu Kn W->Calls Tryz.prog 124 #[.slice (some ⟨b,0,none⟩) 2 2] W fun e w'=>e=.returned (.string S2)/\Below W.heap.size W w'):=fun W b h=>by
  rw[<-HS2.out]
  rw[<-HK.out] at h
  exact line2 _ _ b W h (by decide) (by have:=kN_len10 t.kind;omega)
 have CL3:Hid (∀ W b,L2 b xk N W->Calls Tryz.prog 124 #[.slice (some ⟨b,0,none⟩) 2 2] W fun e w'=>e=.returned (.string S3)/\Below W.heap.size W w'):=fun W b h=>by
  rw[<-HS3.out]
  rw[<-HNN.out] at h
  exact line2 _ _ b W h (by decide) (by have:=HN60.out;simp;omega)
 have CL4:Hid (∀ W b,L2 b qk Pt W->Calls Tryz.prog 124 #[.slice (some ⟨b,0,none⟩) 2 2] W fun e w'=>e=.returned (.string S4)/\Below W.heap.size W w'):=fun W b h=>by
  rw[<-HS4.out]
  rw[<-HPT.out] at h
  exact line2 _ _ b W h (by decide) (by have:=HPL.out;simp;omega)
 have CK:Hid (∀ W,Calls Tryz.prog 58 #[.int .i64 kd] W fun e w'=>e=.returned (.string Kn)/\w'=W):=fun W=>by rw[<-HKD.out,<-HK.out];exact vv t.kind W
 have CP:Hid (∀ W,Below G w W->Calls Tryz.prog 126 #[.agg #[.string P1,.string P2,.int .i64 tm,.int .i64 zn]] W fun e w'=>e=.returned (.string Pt)/\Below W.heap.size W w'):=fun W hW=>by
  rw[<-HPT.out,<-HP1.out,<-HP2.out,<-HTM.out,<-HZN.out];exact jQ t.per HOK.out.2.2.1 W (ht.below (by rw[HG.out];exact hW))
 have CLT:Hid (∀ W b,L4 b S1 S2 S3 S4 W->Calls Tryz.prog 127 #[.string M,.slice (some ⟨b,0,none⟩) 4 4] W (PostL TB W)):=fun W b h=>by
  rw[<-HTB.out,<-HMM.out]
  rw[<-HS1.out,<-HS2.out,<-HS3.out,<-HS4.out] at h
  have q1:=HN60.out
  have q2:=HPL.out
  have q3:=HM2k.out
  have q4:=kN_len10 t.kind
  refine letter4 t.msg (by omega) _ _ _ _ b W h ?_ ?_ ?_ ?_
  ·simp[ln2,uq,hid20,yQ]
  ·simp[ln2,yu] at q4 ⊢;omega
  ·simp[ln2,xk];omega
  ·simp[ln2,qk];omega
 have PE:Hid (∀ W gq cq,Below G w W->G<=gq->Mk W gq cq (q8 TB)->PostT t w (.returned (.tuple #[.slice (some ⟨gq,0,none⟩) TB.length cq,.nilIface])) W):=fun W gq cq a b c=>by
  refine⟨by rw[HG.out];exact a,.inl ⟨HOK.out,gq,cq,?_,by rw[HG.out];exact b,?_⟩⟩
  ·rw[HTB.out]
  ·rw[HTB.out];exact c
 have HBL:Hid (BoxL G R kd N P1 P2 tm zn M w1.drew):=hid (by
  have hx:=HX1.out
  rw[<-HR.out,<-HKD.out,<-HNN.out,<-HP1.out,<-HP2.out,<-HTM.out,<-HZN.out,<-HMM.out]
  exact⟨hx.id,hx.c20,hx.c21,hx.c22,hx.c23,hx.c24,hx.c25,hx.c26⟩)
 have hi32:(Tryz.prog.info? 56).map (·.size)=some R.length:=by rw[<-HR.out,zq,hid20];kernel_rfl
 have HI32:Hid _:=hi32
 clear hi32 h1 h4 hid20 hidB ht
 go_wp2_with fail
 rw[HG.out]
 refine wp_region_held_drew (S:=BoxL G R kd N P1 P2 tm zn M) (by kernel_rfl) (by exact HBL.out) (fun hHeld=>?_)
 have hsd:G<w1.drew.heap.size:=hs1
 have HBd:Hid (Below G w w1.drew):=hid ⟨HB1.out.os,HB1.out.tape,HB1.out.output,HB1.out.size,HB1.out.block⟩
 generalize w1.drew=wd at hHeld hsd HBd ⊢
 clear HBL
 refine tZ (i:=0) hHeld ?_
 try simp only[Act.put,sL]
 refine tZ (i:=1) hHeld ?_
 try simp only[Act.put,sL]
 refine tZ (i:=2) hHeld ?_
 try simp only[Act.put,sL]
 refine tW (i:=3) (v:=.agg R.toArray) hHeld rfl (yieldsIf_load_mid (by rfl) 56 _ rfl G 0 (by rfl) R _ (fun w' h=>h.id) Tryz.underlying56 rfl HI32.out) ?_
 try simp only[Act.put,sL]
 refine tZ (i:=7) hHeld ?_
 try simp only[Act.put,sL]
 refine tZ (i:=8) hHeld ?_
 try simp only[Act.put,sL]
 refine tZ (i:=12) hHeld ?_
 try simp only[Act.put,sL]
 refine tZ (i:=13) hHeld ?_
 try simp only[Act.put,sL]
 refine tZ (i:=16) hHeld ?_
 try simp only[Act.put,sL]
 refine tZ (i:=17) hHeld ?_
 try simp only[Act.put,sL]
 refine wpAnyH_ready (rs:=[4,14]) (by kernel_rfl) (by simp) ?_
 refine zu rfl (fun KK hKK=>?_) (zu rfl (fun KK hKK=>?_) AllReadyH.nil)
 ·refine zk (by rfl) 125 [.tmp 11] _ [.agg R.toArray] _ (by rfl) (by rfl) (enter55 _) (CH.out wd) ?_
  rintro e w1 ⟨rfl,hb1⟩
  refine⟨_,rfl,?_⟩
  have hs1:G<w1.heap.size:=Nat.lt_of_lt_of_le hsd hb1.size
  have HB1:Hid (Below G w w1):=HBd.out.trans (hb1.mono (Nat.le_of_lt hsd))
  refine hKK.out _ _ (hHeld.below hsd hb1) (fun hHeld=>?_)
  clear hKK KK hb1
  try simp only[Act.put,sL]
  refine wpAnyH_ready (rs:=[5,14]) (by kernel_rfl) (by simp) ?_
  refine zu rfl (fun KK hKK=>?_) (zu rfl (fun KK hKK=>?_) AllReadyH.nil)
  ·obtain⟨w2,HW2⟩:=nm_ (w1.alloc (.cells #[.string yQ,.string Hxs] 9))
   obtain⟨b2,Hb2⟩:=nm_ w1.heap.size
   have hL2:L2 b2 yQ Hxs w2:=by rw[<-HW2.out,<-Hb2.out];exact qj _ _ _
   have hb2:Below w1.heap.size w1 w2:=by rw[<-HW2.out];exact(Below.refl _ _).alloc (Nat.le_refl _) _
   refine zZ (by rfl) (.slice (some ⟨b2,0,none⟩) 2 2) (w':=w2) (by rw[<-HW2.out,<-Hb2.out];unfold yQ;go_simp) ?_
   have hs2:G<w2.heap.size:=Nat.lt_of_lt_of_le hs1 hb2.size
   have HB2:Hid (Below G w w2):=HB1.out.trans (hb2.mono (Nat.le_of_lt hs1))
   refine hKK.out _ _ (hHeld.below hs1 hb2) (fun hHeld=>?_)
   clear hKK KK hb2
   try simp only[Act.put,sL]
   refine wpAnyH_ready (rs:=[6,14]) (by kernel_rfl) (by simp) ?_
   refine zu rfl (fun KK hKK=>?_) (zu rfl (fun KK hKK=>?_) AllReadyH.nil)
   ·refine zk (by rfl) 124 [.tmp 13] _ [.slice (some ⟨b2,0,none⟩) 2 2] _ (by rfl) (by rfl) (qX _) (CL1.out w2 _ hL2) ?_
    rintro e w3 ⟨rfl,hb3⟩
    refine⟨_,rfl,?_⟩
    have hs3:G<w3.heap.size:=Nat.lt_of_lt_of_le hs2 hb3.size
    have HB3:Hid (Below G w w3):=HB2.out.trans (hb3.mono (Nat.le_of_lt hs2))
    refine hKK.out _ _ (hHeld.below hs2 hb3) (fun hHeld=>?_)
    clear hKK KK hb3
    try simp only[Act.put,sL]
    refine wpAnyH_ready (rs:=[9,14]) (by kernel_rfl) (by simp) ?_
    refine zu rfl (fun KK hKK=>?_) (zu rfl (fun KK hKK=>?_) AllReadyH.nil)
    ·refine zk (by rfl) 58 [.tmp 16] _ [.int .i64 kd] _ (by rfl) (by rfl) (ZW _) (CK.out w3) ?_
     rintro e w4 ⟨rfl,hw4⟩
     refine⟨_,rfl,?_⟩
     have hw4':=hw4.symm
     subst hw4'
     refine hKK.out _ _ hHeld (fun hHeld=>?_)
     clear hKK KK
     try simp only[Act.put,sL]
     refine wpAnyH_ready (rs:=[10,14]) (by kernel_rfl) (by simp) ?_
     refine zu rfl (fun KK hKK=>?_) (zu rfl (fun KK hKK=>?_) AllReadyH.nil)
     ·obtain⟨w5,HW5⟩:=nm_ (w3.alloc (.cells #[.string yu,.string Kn] 9))
      obtain⟨b5,Hb5⟩:=nm_ w3.heap.size
      have hL5:L2 b5 yu Kn w5:=by rw[<-HW5.out,<-Hb5.out];exact qj _ _ _
      have hb5:Below w3.heap.size w3 w5:=by rw[<-HW5.out];exact(Below.refl _ _).alloc (Nat.le_refl _) _
      refine zZ (by rfl) (.slice (some ⟨b5,0,none⟩) 2 2) (w':=w5) (by rw[<-HW5.out,<-Hb5.out];unfold yu;go_simp) ?_
      have hs5:G<w5.heap.size:=Nat.lt_of_lt_of_le hs3 hb5.size
      have HB5:Hid (Below G w w5):=HB3.out.trans (hb5.mono (Nat.le_of_lt hs3))
      refine hKK.out _ _ (hHeld.below hs3 hb5) (fun hHeld=>?_)
      clear hKK KK hb5
      try simp only[Act.put,sL]
      refine wpAnyH_ready (rs:=[11,14]) (by kernel_rfl) (by simp) ?_
      refine zu rfl (fun KK hKK=>?_) (zu rfl (fun KK hKK=>?_) AllReadyH.nil)
      ·refine zk (by rfl) 124 [.tmp 18] _ [.slice (some ⟨b5,0,none⟩) 2 2] _ (by rfl) (by rfl) (qX _) (CL2.out w5 _ hL5) ?_
       rintro e w6 ⟨rfl,hb6⟩
       refine⟨_,rfl,?_⟩
       have hs6:G<w6.heap.size:=Nat.lt_of_lt_of_le hs5 hb6.size
       have HB6:Hid (Below G w w6):=HB5.out.trans (hb6.mono (Nat.le_of_lt hs5))
       refine hKK.out _ _ (hHeld.below hs5 hb6) (fun hHeld=>?_)
       clear hKK KK hb6
       try simp only[Act.put,sL]
       refine wpAnyH_ready (rs:=[14]) (by kernel_rfl) (by simp) ?_
       refine zu rfl (fun KK hKK=>?_) AllReadyH.nil
       obtain⟨w7,HW7⟩:=nm_ (w6.alloc (.cells #[.string xk,.string N] 9))
       obtain⟨b7,Hb7⟩:=nm_ w6.heap.size
       have hL7:L2 b7 xk N w7:=by rw[<-HW7.out,<-Hb7.out];exact qj _ _ _
       have hb7:Below w6.heap.size w6 w7:=by rw[<-HW7.out];exact(Below.refl _ _).alloc (Nat.le_refl _) _
       refine zZ (by rfl) (.slice (some ⟨b7,0,none⟩) 2 2) (w':=w7) (by rw[<-HW7.out,<-Hb7.out];unfold xk;go_simp) ?_
       have hs7:G<w7.heap.size:=Nat.lt_of_lt_of_le hs6 hb7.size
       have HB7:Hid (Below G w w7):=HB6.out.trans (hb7.mono (Nat.le_of_lt hs6))
       refine hKK.out _ _ (hHeld.below hs6 hb7) (fun hHeld=>?_)
       clear hKK KK hb7
       try simp only[Act.put,sL]
       refine wpAnyH_ready (rs:=[15]) (by kernel_rfl) (by simp) ?_
       refine zu rfl (fun KK hKK=>?_) AllReadyH.nil
       refine zk (by rfl) 124 [.tmp 22] _ [.slice (some ⟨b7,0,none⟩) 2 2] _ (by rfl) (by rfl) (qX _) (CL3.out w7 _ hL7) ?_
       rintro e w8 ⟨rfl,hb8⟩
       refine⟨_,rfl,?_⟩
       have hs8:G<w8.heap.size:=Nat.lt_of_lt_of_le hs7 hb8.size
       have HB8:Hid (Below G w w8):=HB7.out.trans (hb8.mono (Nat.le_of_lt hs7))
       refine hKK.out _ _ (hHeld.below hs7 hb8) (fun hHeld=>?_)
       clear hKK KK hb8
       try simp only[Act.put,sL]
       refine wpAnyH_ready (rs:=[18]) (by kernel_rfl) (by simp) ?_
       refine zu rfl (fun KK hKK=>?_) AllReadyH.nil
       refine zk (by rfl) 126 [.tmp 25] _ [.agg #[.string P1,.string P2,.int .i64 tm,.int .i64 zn]] _ (by rfl) (by rfl) (jj _) (CP.out w8 HB8.out) ?_
       rintro e w9 ⟨rfl,hb9⟩
       refine⟨_,rfl,?_⟩
       have hs9:G<w9.heap.size:=Nat.lt_of_lt_of_le hs8 hb9.size
       have HB9:Hid (Below G w w9):=HB8.out.trans (hb9.mono (Nat.le_of_lt hs8))
       refine hKK.out _ _ (hHeld.below hs8 hb9) (fun hHeld=>?_)
       clear hKK KK hb9
       try simp only[Act.put,sL]
       refine wpAnyH_ready (rs:=[19]) (by kernel_rfl) (by simp) ?_
       refine zu rfl (fun KK hKK=>?_) AllReadyH.nil
       obtain⟨w10,HW10⟩:=nm_ (w9.alloc (.cells #[.string qk,.string Pt] 9))
       obtain⟨b10,Hb10⟩:=nm_ w9.heap.size
       have hL10:L2 b10 qk Pt w10:=by rw[<-HW10.out,<-Hb10.out];exact qj _ _ _
       have hb10:Below w9.heap.size w9 w10:=by rw[<-HW10.out];exact(Below.refl _ _).alloc (Nat.le_refl _) _
       refine zZ (by rfl) (.slice (some ⟨b10,0,none⟩) 2 2) (w':=w10) (by rw[<-HW10.out,<-Hb10.out];unfold qk;go_simp) ?_
       have hs10:G<w10.heap.size:=Nat.lt_of_lt_of_le hs9 hb10.size
       have HB10:Hid (Below G w w10):=HB9.out.trans (hb10.mono (Nat.le_of_lt hs9))
       refine hKK.out _ _ (hHeld.below hs9 hb10) (fun hHeld=>?_)
       clear hKK KK hb10
       try simp only[Act.put,sL]
       refine wpAnyH_ready (rs:=[20]) (by kernel_rfl) (by simp) ?_
       refine zu rfl (fun KK hKK=>?_) AllReadyH.nil
       refine zk (by rfl) 124 [.tmp 27] _ [.slice (some ⟨b10,0,none⟩) 2 2] _ (by rfl) (by rfl) (qX _) (CL4.out w10 _ hL10) ?_
       rintro e w11 ⟨rfl,hb11⟩
       refine⟨_,rfl,?_⟩
       have hs11:G<w11.heap.size:=Nat.lt_of_lt_of_le hs10 hb11.size
       have HB11:Hid (Below G w w11):=HB10.out.trans (hb11.mono (Nat.le_of_lt hs10))
       refine hKK.out _ _ (hHeld.below hs10 hb11) (fun hHeld=>?_)
       clear hKK KK hb11
       try simp only[Act.put,sL]
       refine wpAnyH_ready (rs:=[21]) (by kernel_rfl) (by simp) ?_
       refine zu rfl (fun KK hKK=>?_) AllReadyH.nil
       obtain⟨w12,HW12⟩:=nm_ (w11.alloc (.cells #[.string S1,.string S2,.string S3,.string S4] 9))
       obtain⟨b12,Hb12⟩:=nm_ w11.heap.size
       have hL12:L4 b12 S1 S2 S3 S4 w12:=by rw[<-HW12.out,<-Hb12.out];exact jJ _ _ _ _ _
       have hb12:Below w11.heap.size w11 w12:=by rw[<-HW12.out];exact(Below.refl _ _).alloc (Nat.le_refl _) _
       refine zZ (by rfl) (.slice (some ⟨b12,0,none⟩) 4 4) (w':=w12) (by rw[<-HW12.out,<-Hb12.out];go_simp) ?_
       have hs12:G<w12.heap.size:=Nat.lt_of_lt_of_le hs11 hb12.size
       have HB12:Hid (Below G w w12):=HB11.out.trans (hb12.mono (Nat.le_of_lt hs11))
       refine hKK.out _ _ (hHeld.below hs11 hb12) (fun hHeld=>?_)
       clear hKK KK hb12
       try simp only[Act.put,sL]
       refine wpAnyH_ready (rs:=[22]) (by kernel_rfl) (by simp) ?_
       refine zu rfl (fun KK hKK=>?_) AllReadyH.nil
       refine zk (by rfl) 127 [.tmp 9,.tmp 29] _ [.string M,.slice (some ⟨b12,0,none⟩) 4 4] _ (by rfl) (by rfl) (ZK _ _) (CLT.out w12 _ hL12) ?_
       rintro e w13 ⟨hb13,gq,cq,rfl,hge,hmk⟩
       refine⟨_,rfl,?_⟩
       have HMK:Hid _:=hmk
       have HGE:Hid (G<=gq):=Nat.le_trans (Nat.le_of_lt hs12) hge
       clear hmk hge
       have hs13:G<w13.heap.size:=Nat.lt_of_lt_of_le hs12 hb13.size
       have HB13:Hid (Below G w w13):=HB12.out.trans (hb13.mono (Nat.le_of_lt hs12))
       refine hKK.out _ _ (hHeld.below hs12 hb13) (fun hHeld=>?_)
       clear hKK KK hb13
       try simp only[Act.put,sL]
       refine tZ (i:=23) hHeld ?_
       try simp only[Act.put,sL]
       refine tZ (i:=24) hHeld ?_
       try simp only[Act.put,sL]
       refine wpAnyH_done (by kernel_rfl) ?_ _
       go_wp2
       go_ret2
       exact PE.out _ gq cq HB13.out HGE.out HMK.out
      ·obtain⟨w14,HW14⟩:=nm_ (w5.alloc (.cells #[.string xk,.string N] 9))
       obtain⟨b14,Hb14⟩:=nm_ w5.heap.size
       have hL14:L2 b14 xk N w14:=by rw[<-HW14.out,<-Hb14.out];exact qj _ _ _
       have hb14:Below w5.heap.size w5 w14:=by rw[<-HW14.out];exact(Below.refl _ _).alloc (Nat.le_refl _) _
       refine zZ (by rfl) (.slice (some ⟨b14,0,none⟩) 2 2) (w':=w14) (by rw[<-HW14.out,<-Hb14.out];unfold xk;go_simp) ?_
       have hs14:G<w14.heap.size:=Nat.lt_of_lt_of_le hs5 hb14.size
       have HB14:Hid (Below G w w14):=HB5.out.trans (hb14.mono (Nat.le_of_lt hs5))
       have s18x14:=hL5.below hb14
       refine hKK.out _ _ (hHeld.below hs5 hb14) (fun hHeld=>?_)
       clear hKK KK hb14
       try simp only[Act.put,sL]
       refine wpAnyH_ready (rs:=[11]) (by kernel_rfl) (by simp) ?_
       refine zu rfl (fun KK hKK=>?_) AllReadyH.nil
       refine zk (by rfl) 124 [.tmp 18] _ [.slice (some ⟨b5,0,none⟩) 2 2] _ (by rfl) (by rfl) (qX _) (CL2.out w14 _ s18x14) ?_
       rintro e w15 ⟨rfl,hb15⟩
       refine⟨_,rfl,?_⟩
       have hs15:G<w15.heap.size:=Nat.lt_of_lt_of_le hs14 hb15.size
       have HB15:Hid (Below G w w15):=HB14.out.trans (hb15.mono (Nat.le_of_lt hs14))
       have s22x15:=hL14.below hb15
       refine hKK.out _ _ (hHeld.below hs14 hb15) (fun hHeld=>?_)
       clear hKK KK hb15
       try simp only[Act.put,sL]
       refine wpAnyH_ready (rs:=[15]) (by kernel_rfl) (by simp) ?_
       refine zu rfl (fun KK hKK=>?_) AllReadyH.nil
       refine zk (by rfl) 124 [.tmp 22] _ [.slice (some ⟨b14,0,none⟩) 2 2] _ (by rfl) (by rfl) (qX _) (CL3.out w15 _ s22x15) ?_
       rintro e w16 ⟨rfl,hb16⟩
       refine⟨_,rfl,?_⟩
       have hs16:G<w16.heap.size:=Nat.lt_of_lt_of_le hs15 hb16.size
       have HB16:Hid (Below G w w16):=HB15.out.trans (hb16.mono (Nat.le_of_lt hs15))
       refine hKK.out _ _ (hHeld.below hs15 hb16) (fun hHeld=>?_)
       clear hKK KK hb16
       try simp only[Act.put,sL]
       refine wpAnyH_ready (rs:=[18]) (by kernel_rfl) (by simp) ?_
       refine zu rfl (fun KK hKK=>?_) AllReadyH.nil
       refine zk (by rfl) 126 [.tmp 25] _ [.agg #[.string P1,.string P2,.int .i64 tm,.int .i64 zn]] _ (by rfl) (by rfl) (jj _) (CP.out w16 HB16.out) ?_
       rintro e w17 ⟨rfl,hb17⟩
       refine⟨_,rfl,?_⟩
       have hs17:G<w17.heap.size:=Nat.lt_of_lt_of_le hs16 hb17.size
       have HB17:Hid (Below G w w17):=HB16.out.trans (hb17.mono (Nat.le_of_lt hs16))
       refine hKK.out _ _ (hHeld.below hs16 hb17) (fun hHeld=>?_)
       clear hKK KK hb17
       try simp only[Act.put,sL]
       refine wpAnyH_ready (rs:=[19]) (by kernel_rfl) (by simp) ?_
       refine zu rfl (fun KK hKK=>?_) AllReadyH.nil
       obtain⟨w18,HW18⟩:=nm_ (w17.alloc (.cells #[.string qk,.string Pt] 9))
       obtain⟨b18,Hb18⟩:=nm_ w17.heap.size
       have hL18:L2 b18 qk Pt w18:=by rw[<-HW18.out,<-Hb18.out];exact qj _ _ _
       have hb18:Below w17.heap.size w17 w18:=by rw[<-HW18.out];exact(Below.refl _ _).alloc (Nat.le_refl _) _
       refine zZ (by rfl) (.slice (some ⟨b18,0,none⟩) 2 2) (w':=w18) (by rw[<-HW18.out,<-Hb18.out];unfold qk;go_simp) ?_
       have hs18:G<w18.heap.size:=Nat.lt_of_lt_of_le hs17 hb18.size
       have HB18:Hid (Below G w w18):=HB17.out.trans (hb18.mono (Nat.le_of_lt hs17))
       refine hKK.out _ _ (hHeld.below hs17 hb18) (fun hHeld=>?_)
       clear hKK KK hb18
       try simp only[Act.put,sL]
       refine wpAnyH_ready (rs:=[20]) (by kernel_rfl) (by simp) ?_
       refine zu rfl (fun KK hKK=>?_) AllReadyH.nil
       refine zk (by rfl) 124 [.tmp 27] _ [.slice (some ⟨b18,0,none⟩) 2 2] _ (by rfl) (by rfl) (qX _) (CL4.out w18 _ hL18) ?_
       rintro e w19 ⟨rfl,hb19⟩
       refine⟨_,rfl,?_⟩
       have hs19:G<w19.heap.size:=Nat.lt_of_lt_of_le hs18 hb19.size
       have HB19:Hid (Below G w w19):=HB18.out.trans (hb19.mono (Nat.le_of_lt hs18))
       refine hKK.out _ _ (hHeld.below hs18 hb19) (fun hHeld=>?_)
       clear hKK KK hb19
       try simp only[Act.put,sL]
       refine wpAnyH_ready (rs:=[21]) (by kernel_rfl) (by simp) ?_
       refine zu rfl (fun KK hKK=>?_) AllReadyH.nil
       obtain⟨w20,HW20⟩:=nm_ (w19.alloc (.cells #[.string S1,.string S2,.string S3,.string S4] 9))
       obtain⟨b20,Hb20⟩:=nm_ w19.heap.size
       have hL20:L4 b20 S1 S2 S3 S4 w20:=by rw[<-HW20.out,<-Hb20.out];exact jJ _ _ _ _ _
       have hb20:Below w19.heap.size w19 w20:=by rw[<-HW20.out];exact(Below.refl _ _).alloc (Nat.le_refl _) _
       refine zZ (by rfl) (.slice (some ⟨b20,0,none⟩) 4 4) (w':=w20) (by rw[<-HW20.out,<-Hb20.out];go_simp) ?_
       have hs20:G<w20.heap.size:=Nat.lt_of_lt_of_le hs19 hb20.size
       have HB20:Hid (Below G w w20):=HB19.out.trans (hb20.mono (Nat.le_of_lt hs19))
       refine hKK.out _ _ (hHeld.below hs19 hb20) (fun hHeld=>?_)
       clear hKK KK hb20
       try simp only[Act.put,sL]
       refine wpAnyH_ready (rs:=[22]) (by kernel_rfl) (by simp) ?_
       refine zu rfl (fun KK hKK=>?_) AllReadyH.nil
       refine zk (by rfl) 127 [.tmp 9,.tmp 29] _ [.string M,.slice (some ⟨b20,0,none⟩) 4 4] _ (by rfl) (by rfl) (ZK _ _) (CLT.out w20 _ hL20) ?_
       rintro e w21 ⟨hb21,gq,cq,rfl,hge,hmk⟩
       refine⟨_,rfl,?_⟩
       have HMK:Hid _:=hmk
       have HGE:Hid (G<=gq):=Nat.le_trans (Nat.le_of_lt hs20) hge
       clear hmk hge
       have hs21:G<w21.heap.size:=Nat.lt_of_lt_of_le hs20 hb21.size
       have HB21:Hid (Below G w w21):=HB20.out.trans (hb21.mono (Nat.le_of_lt hs20))
       refine hKK.out _ _ (hHeld.below hs20 hb21) (fun hHeld=>?_)
       clear hKK KK hb21
       try simp only[Act.put,sL]
       refine tZ (i:=23) hHeld ?_
       try simp only[Act.put,sL]
       refine tZ (i:=24) hHeld ?_
       try simp only[Act.put,sL]
       refine wpAnyH_done (by kernel_rfl) ?_ _
       go_wp2
       go_ret2
       exact PE.out _ gq cq HB21.out HGE.out HMK.out
     ·obtain⟨w22,HW22⟩:=nm_ (w3.alloc (.cells #[.string xk,.string N] 9))
      obtain⟨b22,Hb22⟩:=nm_ w3.heap.size
      have hL22:L2 b22 xk N w22:=by rw[<-HW22.out,<-Hb22.out];exact qj _ _ _
      have hb22:Below w3.heap.size w3 w22:=by rw[<-HW22.out];exact(Below.refl _ _).alloc (Nat.le_refl _) _
      refine zZ (by rfl) (.slice (some ⟨b22,0,none⟩) 2 2) (w':=w22) (by rw[<-HW22.out,<-Hb22.out];unfold xk;go_simp) ?_
      have hs22:G<w22.heap.size:=Nat.lt_of_lt_of_le hs3 hb22.size
      have HB22:Hid (Below G w w22):=HB3.out.trans (hb22.mono (Nat.le_of_lt hs3))
      refine hKK.out _ _ (hHeld.below hs3 hb22) (fun hHeld=>?_)
      clear hKK KK hb22
      try simp only[Act.put,sL]
      refine wpAnyH_ready (rs:=[10]) (by kernel_rfl) (by simp) ?_
      refine zu rfl (fun KK hKK=>?_) AllReadyH.nil
      obtain⟨w23,HW23⟩:=nm_ (w22.alloc (.cells #[.string yu,.string Kn] 9))
      obtain⟨b23,Hb23⟩:=nm_ w22.heap.size
      have hL23:L2 b23 yu Kn w23:=by rw[<-HW23.out,<-Hb23.out];exact qj _ _ _
      have hb23:Below w22.heap.size w22 w23:=by rw[<-HW23.out];exact(Below.refl _ _).alloc (Nat.le_refl _) _
      refine zZ (by rfl) (.slice (some ⟨b23,0,none⟩) 2 2) (w':=w23) (by rw[<-HW23.out,<-Hb23.out];unfold yu;go_simp) ?_
      have hs23:G<w23.heap.size:=Nat.lt_of_lt_of_le hs22 hb23.size
      have HB23:Hid (Below G w w23):=HB22.out.trans (hb23.mono (Nat.le_of_lt hs22))
      have s22x23:=hL22.below hb23
      refine hKK.out _ _ (hHeld.below hs22 hb23) (fun hHeld=>?_)
      clear hKK KK hb23
      try simp only[Act.put,sL]
      refine wpAnyH_ready (rs:=[11]) (by kernel_rfl) (by simp) ?_
      refine zu rfl (fun KK hKK=>?_) AllReadyH.nil
      refine zk (by rfl) 124 [.tmp 18] _ [.slice (some ⟨b23,0,none⟩) 2 2] _ (by rfl) (by rfl) (qX _) (CL2.out w23 _ hL23) ?_
      rintro e w24 ⟨rfl,hb24⟩
      refine⟨_,rfl,?_⟩
      have hs24:G<w24.heap.size:=Nat.lt_of_lt_of_le hs23 hb24.size
      have HB24:Hid (Below G w w24):=HB23.out.trans (hb24.mono (Nat.le_of_lt hs23))
      have s22x24:=s22x23.below hb24
      refine hKK.out _ _ (hHeld.below hs23 hb24) (fun hHeld=>?_)
      clear hKK KK hb24
      try simp only[Act.put,sL]
      refine wpAnyH_ready (rs:=[15]) (by kernel_rfl) (by simp) ?_
      refine zu rfl (fun KK hKK=>?_) AllReadyH.nil
      refine zk (by rfl) 124 [.tmp 22] _ [.slice (some ⟨b22,0,none⟩) 2 2] _ (by rfl) (by rfl) (qX _) (CL3.out w24 _ s22x24) ?_
      rintro e w25 ⟨rfl,hb25⟩
      refine⟨_,rfl,?_⟩
      have hs25:G<w25.heap.size:=Nat.lt_of_lt_of_le hs24 hb25.size
      have HB25:Hid (Below G w w25):=HB24.out.trans (hb25.mono (Nat.le_of_lt hs24))
      refine hKK.out _ _ (hHeld.below hs24 hb25) (fun hHeld=>?_)
      clear hKK KK hb25
      try simp only[Act.put,sL]
      refine wpAnyH_ready (rs:=[18]) (by kernel_rfl) (by simp) ?_
      refine zu rfl (fun KK hKK=>?_) AllReadyH.nil
      refine zk (by rfl) 126 [.tmp 25] _ [.agg #[.string P1,.string P2,.int .i64 tm,.int .i64 zn]] _ (by rfl) (by rfl) (jj _) (CP.out w25 HB25.out) ?_
      rintro e w26 ⟨rfl,hb26⟩
      refine⟨_,rfl,?_⟩
      have hs26:G<w26.heap.size:=Nat.lt_of_lt_of_le hs25 hb26.size
      have HB26:Hid (Below G w w26):=HB25.out.trans (hb26.mono (Nat.le_of_lt hs25))
      refine hKK.out _ _ (hHeld.below hs25 hb26) (fun hHeld=>?_)
      clear hKK KK hb26
      try simp only[Act.put,sL]
      refine wpAnyH_ready (rs:=[19]) (by kernel_rfl) (by simp) ?_
      refine zu rfl (fun KK hKK=>?_) AllReadyH.nil
      obtain⟨w27,HW27⟩:=nm_ (w26.alloc (.cells #[.string qk,.string Pt] 9))
      obtain⟨b27,Hb27⟩:=nm_ w26.heap.size
      have hL27:L2 b27 qk Pt w27:=by rw[<-HW27.out,<-Hb27.out];exact qj _ _ _
      have hb27:Below w26.heap.size w26 w27:=by rw[<-HW27.out];exact(Below.refl _ _).alloc (Nat.le_refl _) _
      refine zZ (by rfl) (.slice (some ⟨b27,0,none⟩) 2 2) (w':=w27) (by rw[<-HW27.out,<-Hb27.out];unfold qk;go_simp) ?_
      have hs27:G<w27.heap.size:=Nat.lt_of_lt_of_le hs26 hb27.size
      have HB27:Hid (Below G w w27):=HB26.out.trans (hb27.mono (Nat.le_of_lt hs26))
      refine hKK.out _ _ (hHeld.below hs26 hb27) (fun hHeld=>?_)
      clear hKK KK hb27
      try simp only[Act.put,sL]
      refine wpAnyH_ready (rs:=[20]) (by kernel_rfl) (by simp) ?_
      refine zu rfl (fun KK hKK=>?_) AllReadyH.nil
      refine zk (by rfl) 124 [.tmp 27] _ [.slice (some ⟨b27,0,none⟩) 2 2] _ (by rfl) (by rfl) (qX _) (CL4.out w27 _ hL27) ?_
      rintro e w28 ⟨rfl,hb28⟩
      refine⟨_,rfl,?_⟩
      have hs28:G<w28.heap.size:=Nat.lt_of_lt_of_le hs27 hb28.size
      have HB28:Hid (Below G w w28):=HB27.out.trans (hb28.mono (Nat.le_of_lt hs27))
      refine hKK.out _ _ (hHeld.below hs27 hb28) (fun hHeld=>?_)
      clear hKK KK hb28
      try simp only[Act.put,sL]
      refine wpAnyH_ready (rs:=[21]) (by kernel_rfl) (by simp) ?_
      refine zu rfl (fun KK hKK=>?_) AllReadyH.nil
      obtain⟨w29,HW29⟩:=nm_ (w28.alloc (.cells #[.string S1,.string S2,.string S3,.string S4] 9))
      obtain⟨b29,Hb29⟩:=nm_ w28.heap.size
      have hL29:L4 b29 S1 S2 S3 S4 w29:=by rw[<-HW29.out,<-Hb29.out];exact jJ _ _ _ _ _
      have hb29:Below w28.heap.size w28 w29:=by rw[<-HW29.out];exact(Below.refl _ _).alloc (Nat.le_refl _) _
      refine zZ (by rfl) (.slice (some ⟨b29,0,none⟩) 4 4) (w':=w29) (by rw[<-HW29.out,<-Hb29.out];go_simp) ?_
      have hs29:G<w29.heap.size:=Nat.lt_of_lt_of_le hs28 hb29.size
      have HB29:Hid (Below G w w29):=HB28.out.trans (hb29.mono (Nat.le_of_lt hs28))
      refine hKK.out _ _ (hHeld.below hs28 hb29) (fun hHeld=>?_)
      clear hKK KK hb29
      try simp only[Act.put,sL]
      refine wpAnyH_ready (rs:=[22]) (by kernel_rfl) (by simp) ?_
      refine zu rfl (fun KK hKK=>?_) AllReadyH.nil
      refine zk (by rfl) 127 [.tmp 9,.tmp 29] _ [.string M,.slice (some ⟨b29,0,none⟩) 4 4] _ (by rfl) (by rfl) (ZK _ _) (CLT.out w29 _ hL29) ?_
      rintro e w30 ⟨hb30,gq,cq,rfl,hge,hmk⟩
      refine⟨_,rfl,?_⟩
      have HMK:Hid _:=hmk
      have HGE:Hid (G<=gq):=Nat.le_trans (Nat.le_of_lt hs29) hge
      clear hmk hge
      have hs30:G<w30.heap.size:=Nat.lt_of_lt_of_le hs29 hb30.size
      have HB30:Hid (Below G w w30):=HB29.out.trans (hb30.mono (Nat.le_of_lt hs29))
      refine hKK.out _ _ (hHeld.below hs29 hb30) (fun hHeld=>?_)
      clear hKK KK hb30
      try simp only[Act.put,sL]
      refine tZ (i:=23) hHeld ?_
      try simp only[Act.put,sL]
      refine tZ (i:=24) hHeld ?_
      try simp only[Act.put,sL]
      refine wpAnyH_done (by kernel_rfl) ?_ _
      go_wp2
      go_ret2
      exact PE.out _ gq cq HB30.out HGE.out HMK.out
    ·obtain⟨w31,HW31⟩:=nm_ (w3.alloc (.cells #[.string xk,.string N] 9))
     obtain⟨b31,Hb31⟩:=nm_ w3.heap.size
     have hL31:L2 b31 xk N w31:=by rw[<-HW31.out,<-Hb31.out];exact qj _ _ _
     have hb31:Below w3.heap.size w3 w31:=by rw[<-HW31.out];exact(Below.refl _ _).alloc (Nat.le_refl _) _
     refine zZ (by rfl) (.slice (some ⟨b31,0,none⟩) 2 2) (w':=w31) (by rw[<-HW31.out,<-Hb31.out];unfold xk;go_simp) ?_
     have hs31:G<w31.heap.size:=Nat.lt_of_lt_of_le hs3 hb31.size
     have HB31:Hid (Below G w w31):=HB3.out.trans (hb31.mono (Nat.le_of_lt hs3))
     refine hKK.out _ _ (hHeld.below hs3 hb31) (fun hHeld=>?_)
     clear hKK KK hb31
     try simp only[Act.put,sL]
     refine wpAnyH_ready (rs:=[9]) (by kernel_rfl) (by simp) ?_
     refine zu rfl (fun KK hKK=>?_) AllReadyH.nil
     refine zk (by rfl) 58 [.tmp 16] _ [.int .i64 kd] _ (by rfl) (by rfl) (ZW _) (CK.out w31) ?_
     rintro e w32 ⟨rfl,hw32⟩
     refine⟨_,rfl,?_⟩
     have hw32':=hw32.symm
     subst hw32'
     refine hKK.out _ _ hHeld (fun hHeld=>?_)
     clear hKK KK
     try simp only[Act.put,sL]
     refine wpAnyH_ready (rs:=[10]) (by kernel_rfl) (by simp) ?_
     refine zu rfl (fun KK hKK=>?_) AllReadyH.nil
     obtain⟨w33,HW33⟩:=nm_ (w31.alloc (.cells #[.string yu,.string Kn] 9))
     obtain⟨b33,Hb33⟩:=nm_ w31.heap.size
     have hL33:L2 b33 yu Kn w33:=by rw[<-HW33.out,<-Hb33.out];exact qj _ _ _
     have hb33:Below w31.heap.size w31 w33:=by rw[<-HW33.out];exact(Below.refl _ _).alloc (Nat.le_refl _) _
     refine zZ (by rfl) (.slice (some ⟨b33,0,none⟩) 2 2) (w':=w33) (by rw[<-HW33.out,<-Hb33.out];unfold yu;go_simp) ?_
     have hs33:G<w33.heap.size:=Nat.lt_of_lt_of_le hs31 hb33.size
     have HB33:Hid (Below G w w33):=HB31.out.trans (hb33.mono (Nat.le_of_lt hs31))
     have s22x33:=hL31.below hb33
     refine hKK.out _ _ (hHeld.below hs31 hb33) (fun hHeld=>?_)
     clear hKK KK hb33
     try simp only[Act.put,sL]
     refine wpAnyH_ready (rs:=[11]) (by kernel_rfl) (by simp) ?_
     refine zu rfl (fun KK hKK=>?_) AllReadyH.nil
     refine zk (by rfl) 124 [.tmp 18] _ [.slice (some ⟨b33,0,none⟩) 2 2] _ (by rfl) (by rfl) (qX _) (CL2.out w33 _ hL33) ?_
     rintro e w34 ⟨rfl,hb34⟩
     refine⟨_,rfl,?_⟩
     have hs34:G<w34.heap.size:=Nat.lt_of_lt_of_le hs33 hb34.size
     have HB34:Hid (Below G w w34):=HB33.out.trans (hb34.mono (Nat.le_of_lt hs33))
     have s22x34:=s22x33.below hb34
     refine hKK.out _ _ (hHeld.below hs33 hb34) (fun hHeld=>?_)
     clear hKK KK hb34
     try simp only[Act.put,sL]
     refine wpAnyH_ready (rs:=[15]) (by kernel_rfl) (by simp) ?_
     refine zu rfl (fun KK hKK=>?_) AllReadyH.nil
     refine zk (by rfl) 124 [.tmp 22] _ [.slice (some ⟨b31,0,none⟩) 2 2] _ (by rfl) (by rfl) (qX _) (CL3.out w34 _ s22x34) ?_
     rintro e w35 ⟨rfl,hb35⟩
     refine⟨_,rfl,?_⟩
     have hs35:G<w35.heap.size:=Nat.lt_of_lt_of_le hs34 hb35.size
     have HB35:Hid (Below G w w35):=HB34.out.trans (hb35.mono (Nat.le_of_lt hs34))
     refine hKK.out _ _ (hHeld.below hs34 hb35) (fun hHeld=>?_)
     clear hKK KK hb35
     try simp only[Act.put,sL]
     refine wpAnyH_ready (rs:=[18]) (by kernel_rfl) (by simp) ?_
     refine zu rfl (fun KK hKK=>?_) AllReadyH.nil
     refine zk (by rfl) 126 [.tmp 25] _ [.agg #[.string P1,.string P2,.int .i64 tm,.int .i64 zn]] _ (by rfl) (by rfl) (jj _) (CP.out w35 HB35.out) ?_
     rintro e w36 ⟨rfl,hb36⟩
     refine⟨_,rfl,?_⟩
     have hs36:G<w36.heap.size:=Nat.lt_of_lt_of_le hs35 hb36.size
     have HB36:Hid (Below G w w36):=HB35.out.trans (hb36.mono (Nat.le_of_lt hs35))
     refine hKK.out _ _ (hHeld.below hs35 hb36) (fun hHeld=>?_)
     clear hKK KK hb36
     try simp only[Act.put,sL]
     refine wpAnyH_ready (rs:=[19]) (by kernel_rfl) (by simp) ?_
     refine zu rfl (fun KK hKK=>?_) AllReadyH.nil
     obtain⟨w37,HW37⟩:=nm_ (w36.alloc (.cells #[.string qk,.string Pt] 9))
     obtain⟨b37,Hb37⟩:=nm_ w36.heap.size
     have hL37:L2 b37 qk Pt w37:=by rw[<-HW37.out,<-Hb37.out];exact qj _ _ _
     have hb37:Below w36.heap.size w36 w37:=by rw[<-HW37.out];exact(Below.refl _ _).alloc (Nat.le_refl _) _
     refine zZ (by rfl) (.slice (some ⟨b37,0,none⟩) 2 2) (w':=w37) (by rw[<-HW37.out,<-Hb37.out];unfold qk;go_simp) ?_
     have hs37:G<w37.heap.size:=Nat.lt_of_lt_of_le hs36 hb37.size
     have HB37:Hid (Below G w w37):=HB36.out.trans (hb37.mono (Nat.le_of_lt hs36))
     refine hKK.out _ _ (hHeld.below hs36 hb37) (fun hHeld=>?_)
     clear hKK KK hb37
     try simp only[Act.put,sL]
     refine wpAnyH_ready (rs:=[20]) (by kernel_rfl) (by simp) ?_
     refine zu rfl (fun KK hKK=>?_) AllReadyH.nil
     refine zk (by rfl) 124 [.tmp 27] _ [.slice (some ⟨b37,0,none⟩) 2 2] _ (by rfl) (by rfl) (qX _) (CL4.out w37 _ hL37) ?_
     rintro e w38 ⟨rfl,hb38⟩
     refine⟨_,rfl,?_⟩
     have hs38:G<w38.heap.size:=Nat.lt_of_lt_of_le hs37 hb38.size
     have HB38:Hid (Below G w w38):=HB37.out.trans (hb38.mono (Nat.le_of_lt hs37))
     refine hKK.out _ _ (hHeld.below hs37 hb38) (fun hHeld=>?_)
     clear hKK KK hb38
     try simp only[Act.put,sL]
     refine wpAnyH_ready (rs:=[21]) (by kernel_rfl) (by simp) ?_
     refine zu rfl (fun KK hKK=>?_) AllReadyH.nil
     obtain⟨w39,HW39⟩:=nm_ (w38.alloc (.cells #[.string S1,.string S2,.string S3,.string S4] 9))
     obtain⟨b39,Hb39⟩:=nm_ w38.heap.size
     have hL39:L4 b39 S1 S2 S3 S4 w39:=by rw[<-HW39.out,<-Hb39.out];exact jJ _ _ _ _ _
     have hb39:Below w38.heap.size w38 w39:=by rw[<-HW39.out];exact(Below.refl _ _).alloc (Nat.le_refl _) _
     refine zZ (by rfl) (.slice (some ⟨b39,0,none⟩) 4 4) (w':=w39) (by rw[<-HW39.out,<-Hb39.out];go_simp) ?_
     have hs39:G<w39.heap.size:=Nat.lt_of_lt_of_le hs38 hb39.size
     have HB39:Hid (Below G w w39):=HB38.out.trans (hb39.mono (Nat.le_of_lt hs38))
     refine hKK.out _ _ (hHeld.below hs38 hb39) (fun hHeld=>?_)
     clear hKK KK hb39
     try simp only[Act.put,sL]
     refine wpAnyH_ready (rs:=[22]) (by kernel_rfl) (by simp) ?_
     refine zu rfl (fun KK hKK=>?_) AllReadyH.nil
     refine zk (by rfl) 127 [.tmp 9,.tmp 29] _ [.string M,.slice (some ⟨b39,0,none⟩) 4 4] _ (by rfl) (by rfl) (ZK _ _) (CLT.out w39 _ hL39) ?_
     rintro e w40 ⟨hb40,gq,cq,rfl,hge,hmk⟩
     refine⟨_,rfl,?_⟩
     have HMK:Hid _:=hmk
     have HGE:Hid (G<=gq):=Nat.le_trans (Nat.le_of_lt hs39) hge
     clear hmk hge
     have hs40:G<w40.heap.size:=Nat.lt_of_lt_of_le hs39 hb40.size
     have HB40:Hid (Below G w w40):=HB39.out.trans (hb40.mono (Nat.le_of_lt hs39))
     refine hKK.out _ _ (hHeld.below hs39 hb40) (fun hHeld=>?_)
     clear hKK KK hb40
     try simp only[Act.put,sL]
     refine tZ (i:=23) hHeld ?_
     try simp only[Act.put,sL]
     refine tZ (i:=24) hHeld ?_
     try simp only[Act.put,sL]
     refine wpAnyH_done (by kernel_rfl) ?_ _
     go_wp2
     go_ret2
     exact PE.out _ gq cq HB40.out HGE.out HMK.out
   ·obtain⟨w41,HW41⟩:=nm_ (w2.alloc (.cells #[.string xk,.string N] 9))
    obtain⟨b41,Hb41⟩:=nm_ w2.heap.size
    have hL41:L2 b41 xk N w41:=by rw[<-HW41.out,<-Hb41.out];exact qj _ _ _
    have hb41:Below w2.heap.size w2 w41:=by rw[<-HW41.out];exact(Below.refl _ _).alloc (Nat.le_refl _) _
    refine zZ (by rfl) (.slice (some ⟨b41,0,none⟩) 2 2) (w':=w41) (by rw[<-HW41.out,<-Hb41.out];unfold xk;go_simp) ?_
    have hs41:G<w41.heap.size:=Nat.lt_of_lt_of_le hs2 hb41.size
    have HB41:Hid (Below G w w41):=HB2.out.trans (hb41.mono (Nat.le_of_lt hs2))
    have s13x41:=hL2.below hb41
    refine hKK.out _ _ (hHeld.below hs2 hb41) (fun hHeld=>?_)
    clear hKK KK hb41
    try simp only[Act.put,sL]
    refine wpAnyH_ready (rs:=[6]) (by kernel_rfl) (by simp) ?_
    refine zu rfl (fun KK hKK=>?_) AllReadyH.nil
    refine zk (by rfl) 124 [.tmp 13] _ [.slice (some ⟨b2,0,none⟩) 2 2] _ (by rfl) (by rfl) (qX _) (CL1.out w41 _ s13x41) ?_
    rintro e w42 ⟨rfl,hb42⟩
    refine⟨_,rfl,?_⟩
    have hs42:G<w42.heap.size:=Nat.lt_of_lt_of_le hs41 hb42.size
    have HB42:Hid (Below G w w42):=HB41.out.trans (hb42.mono (Nat.le_of_lt hs41))
    have s22x42:=hL41.below hb42
    refine hKK.out _ _ (hHeld.below hs41 hb42) (fun hHeld=>?_)
    clear hKK KK hb42
    try simp only[Act.put,sL]
    refine wpAnyH_ready (rs:=[9]) (by kernel_rfl) (by simp) ?_
    refine zu rfl (fun KK hKK=>?_) AllReadyH.nil
    refine zk (by rfl) 58 [.tmp 16] _ [.int .i64 kd] _ (by rfl) (by rfl) (ZW _) (CK.out w42) ?_
    rintro e w43 ⟨rfl,hw43⟩
    refine⟨_,rfl,?_⟩
    have hw43':=hw43.symm
    subst hw43'
    refine hKK.out _ _ hHeld (fun hHeld=>?_)
    clear hKK KK
    try simp only[Act.put,sL]
    refine wpAnyH_ready (rs:=[10]) (by kernel_rfl) (by simp) ?_
    refine zu rfl (fun KK hKK=>?_) AllReadyH.nil
    obtain⟨w44,HW44⟩:=nm_ (w42.alloc (.cells #[.string yu,.string Kn] 9))
    obtain⟨b44,Hb44⟩:=nm_ w42.heap.size
    have hL44:L2 b44 yu Kn w44:=by rw[<-HW44.out,<-Hb44.out];exact qj _ _ _
    have hb44:Below w42.heap.size w42 w44:=by rw[<-HW44.out];exact(Below.refl _ _).alloc (Nat.le_refl _) _
    refine zZ (by rfl) (.slice (some ⟨b44,0,none⟩) 2 2) (w':=w44) (by rw[<-HW44.out,<-Hb44.out];unfold yu;go_simp) ?_
    have hs44:G<w44.heap.size:=Nat.lt_of_lt_of_le hs42 hb44.size
    have HB44:Hid (Below G w w44):=HB42.out.trans (hb44.mono (Nat.le_of_lt hs42))
    have s22x44:=s22x42.below hb44
    refine hKK.out _ _ (hHeld.below hs42 hb44) (fun hHeld=>?_)
    clear hKK KK hb44
    try simp only[Act.put,sL]
    refine wpAnyH_ready (rs:=[11]) (by kernel_rfl) (by simp) ?_
    refine zu rfl (fun KK hKK=>?_) AllReadyH.nil
    refine zk (by rfl) 124 [.tmp 18] _ [.slice (some ⟨b44,0,none⟩) 2 2] _ (by rfl) (by rfl) (qX _) (CL2.out w44 _ hL44) ?_
    rintro e w45 ⟨rfl,hb45⟩
    refine⟨_,rfl,?_⟩
    have hs45:G<w45.heap.size:=Nat.lt_of_lt_of_le hs44 hb45.size
    have HB45:Hid (Below G w w45):=HB44.out.trans (hb45.mono (Nat.le_of_lt hs44))
    have s22x45:=s22x44.below hb45
    refine hKK.out _ _ (hHeld.below hs44 hb45) (fun hHeld=>?_)
    clear hKK KK hb45
    try simp only[Act.put,sL]
    refine wpAnyH_ready (rs:=[15]) (by kernel_rfl) (by simp) ?_
    refine zu rfl (fun KK hKK=>?_) AllReadyH.nil
    refine zk (by rfl) 124 [.tmp 22] _ [.slice (some ⟨b41,0,none⟩) 2 2] _ (by rfl) (by rfl) (qX _) (CL3.out w45 _ s22x45) ?_
    rintro e w46 ⟨rfl,hb46⟩
    refine⟨_,rfl,?_⟩
    have hs46:G<w46.heap.size:=Nat.lt_of_lt_of_le hs45 hb46.size
    have HB46:Hid (Below G w w46):=HB45.out.trans (hb46.mono (Nat.le_of_lt hs45))
    refine hKK.out _ _ (hHeld.below hs45 hb46) (fun hHeld=>?_)
    clear hKK KK hb46
    try simp only[Act.put,sL]
    refine wpAnyH_ready (rs:=[18]) (by kernel_rfl) (by simp) ?_
    refine zu rfl (fun KK hKK=>?_) AllReadyH.nil
    refine zk (by rfl) 126 [.tmp 25] _ [.agg #[.string P1,.string P2,.int .i64 tm,.int .i64 zn]] _ (by rfl) (by rfl) (jj _) (CP.out w46 HB46.out) ?_
    rintro e w47 ⟨rfl,hb47⟩
    refine⟨_,rfl,?_⟩
    have hs47:G<w47.heap.size:=Nat.lt_of_lt_of_le hs46 hb47.size
    have HB47:Hid (Below G w w47):=HB46.out.trans (hb47.mono (Nat.le_of_lt hs46))
    refine hKK.out _ _ (hHeld.below hs46 hb47) (fun hHeld=>?_)
    clear hKK KK hb47
    try simp only[Act.put,sL]
    refine wpAnyH_ready (rs:=[19]) (by kernel_rfl) (by simp) ?_
    refine zu rfl (fun KK hKK=>?_) AllReadyH.nil
    obtain⟨w48,HW48⟩:=nm_ (w47.alloc (.cells #[.string qk,.string Pt] 9))
    obtain⟨b48,Hb48⟩:=nm_ w47.heap.size
    have hL48:L2 b48 qk Pt w48:=by rw[<-HW48.out,<-Hb48.out];exact qj _ _ _
    have hb48:Below w47.heap.size w47 w48:=by rw[<-HW48.out];exact(Below.refl _ _).alloc (Nat.le_refl _) _
    refine zZ (by rfl) (.slice (some ⟨b48,0,none⟩) 2 2) (w':=w48) (by rw[<-HW48.out,<-Hb48.out];unfold qk;go_simp) ?_
    have hs48:G<w48.heap.size:=Nat.lt_of_lt_of_le hs47 hb48.size
    have HB48:Hid (Below G w w48):=HB47.out.trans (hb48.mono (Nat.le_of_lt hs47))
    refine hKK.out _ _ (hHeld.below hs47 hb48) (fun hHeld=>?_)
    clear hKK KK hb48
    try simp only[Act.put,sL]
    refine wpAnyH_ready (rs:=[20]) (by kernel_rfl) (by simp) ?_
    refine zu rfl (fun KK hKK=>?_) AllReadyH.nil
    refine zk (by rfl) 124 [.tmp 27] _ [.slice (some ⟨b48,0,none⟩) 2 2] _ (by rfl) (by rfl) (qX _) (CL4.out w48 _ hL48) ?_
    rintro e w49 ⟨rfl,hb49⟩
    refine⟨_,rfl,?_⟩
    have hs49:G<w49.heap.size:=Nat.lt_of_lt_of_le hs48 hb49.size
    have HB49:Hid (Below G w w49):=HB48.out.trans (hb49.mono (Nat.le_of_lt hs48))
    refine hKK.out _ _ (hHeld.below hs48 hb49) (fun hHeld=>?_)
    clear hKK KK hb49
    try simp only[Act.put,sL]
    refine wpAnyH_ready (rs:=[21]) (by kernel_rfl) (by simp) ?_
    refine zu rfl (fun KK hKK=>?_) AllReadyH.nil
    obtain⟨w50,HW50⟩:=nm_ (w49.alloc (.cells #[.string S1,.string S2,.string S3,.string S4] 9))
    obtain⟨b50,Hb50⟩:=nm_ w49.heap.size
    have hL50:L4 b50 S1 S2 S3 S4 w50:=by rw[<-HW50.out,<-Hb50.out];exact jJ _ _ _ _ _
    have hb50:Below w49.heap.size w49 w50:=by rw[<-HW50.out];exact(Below.refl _ _).alloc (Nat.le_refl _) _
    refine zZ (by rfl) (.slice (some ⟨b50,0,none⟩) 4 4) (w':=w50) (by rw[<-HW50.out,<-Hb50.out];go_simp) ?_
    have hs50:G<w50.heap.size:=Nat.lt_of_lt_of_le hs49 hb50.size
    have HB50:Hid (Below G w w50):=HB49.out.trans (hb50.mono (Nat.le_of_lt hs49))
    refine hKK.out _ _ (hHeld.below hs49 hb50) (fun hHeld=>?_)
    clear hKK KK hb50
    try simp only[Act.put,sL]
    refine wpAnyH_ready (rs:=[22]) (by kernel_rfl) (by simp) ?_
    refine zu rfl (fun KK hKK=>?_) AllReadyH.nil
    refine zk (by rfl) 127 [.tmp 9,.tmp 29] _ [.string M,.slice (some ⟨b50,0,none⟩) 4 4] _ (by rfl) (by rfl) (ZK _ _) (CLT.out w50 _ hL50) ?_
    rintro e w51 ⟨hb51,gq,cq,rfl,hge,hmk⟩
    refine⟨_,rfl,?_⟩
    have HMK:Hid _:=hmk
    have HGE:Hid (G<=gq):=Nat.le_trans (Nat.le_of_lt hs50) hge
    clear hmk hge
    have hs51:G<w51.heap.size:=Nat.lt_of_lt_of_le hs50 hb51.size
    have HB51:Hid (Below G w w51):=HB50.out.trans (hb51.mono (Nat.le_of_lt hs50))
    refine hKK.out _ _ (hHeld.below hs50 hb51) (fun hHeld=>?_)
    clear hKK KK hb51
    try simp only[Act.put,sL]
    refine tZ (i:=23) hHeld ?_
    try simp only[Act.put,sL]
    refine tZ (i:=24) hHeld ?_
    try simp only[Act.put,sL]
    refine wpAnyH_done (by kernel_rfl) ?_ _
    go_wp2
    go_ret2
    exact PE.out _ gq cq HB51.out HGE.out HMK.out
  ·obtain⟨w52,HW52⟩:=nm_ (w1.alloc (.cells #[.string xk,.string N] 9))
   obtain⟨b52,Hb52⟩:=nm_ w1.heap.size
   have hL52:L2 b52 xk N w52:=by rw[<-HW52.out,<-Hb52.out];exact qj _ _ _
   have hb52:Below w1.heap.size w1 w52:=by rw[<-HW52.out];exact(Below.refl _ _).alloc (Nat.le_refl _) _
   refine zZ (by rfl) (.slice (some ⟨b52,0,none⟩) 2 2) (w':=w52) (by rw[<-HW52.out,<-Hb52.out];unfold xk;go_simp) ?_
   have hs52:G<w52.heap.size:=Nat.lt_of_lt_of_le hs1 hb52.size
   have HB52:Hid (Below G w w52):=HB1.out.trans (hb52.mono (Nat.le_of_lt hs1))
   refine hKK.out _ _ (hHeld.below hs1 hb52) (fun hHeld=>?_)
   clear hKK KK hb52
   try simp only[Act.put,sL]
   refine wpAnyH_ready (rs:=[5]) (by kernel_rfl) (by simp) ?_
   refine zu rfl (fun KK hKK=>?_) AllReadyH.nil
   obtain⟨w53,HW53⟩:=nm_ (w52.alloc (.cells #[.string yQ,.string Hxs] 9))
   obtain⟨b53,Hb53⟩:=nm_ w52.heap.size
   have hL53:L2 b53 yQ Hxs w53:=by rw[<-HW53.out,<-Hb53.out];exact qj _ _ _
   have hb53:Below w52.heap.size w52 w53:=by rw[<-HW53.out];exact(Below.refl _ _).alloc (Nat.le_refl _) _
   refine zZ (by rfl) (.slice (some ⟨b53,0,none⟩) 2 2) (w':=w53) (by rw[<-HW53.out,<-Hb53.out];unfold yQ;go_simp) ?_
   have hs53:G<w53.heap.size:=Nat.lt_of_lt_of_le hs52 hb53.size
   have HB53:Hid (Below G w w53):=HB52.out.trans (hb53.mono (Nat.le_of_lt hs52))
   have s22x53:=hL52.below hb53
   refine hKK.out _ _ (hHeld.below hs52 hb53) (fun hHeld=>?_)
   clear hKK KK hb53
   try simp only[Act.put,sL]
   refine wpAnyH_ready (rs:=[6]) (by kernel_rfl) (by simp) ?_
   refine zu rfl (fun KK hKK=>?_) AllReadyH.nil
   refine zk (by rfl) 124 [.tmp 13] _ [.slice (some ⟨b53,0,none⟩) 2 2] _ (by rfl) (by rfl) (qX _) (CL1.out w53 _ hL53) ?_
   rintro e w54 ⟨rfl,hb54⟩
   refine⟨_,rfl,?_⟩
   have hs54:G<w54.heap.size:=Nat.lt_of_lt_of_le hs53 hb54.size
   have HB54:Hid (Below G w w54):=HB53.out.trans (hb54.mono (Nat.le_of_lt hs53))
   have s22x54:=s22x53.below hb54
   refine hKK.out _ _ (hHeld.below hs53 hb54) (fun hHeld=>?_)
   clear hKK KK hb54
   try simp only[Act.put,sL]
   refine wpAnyH_ready (rs:=[9]) (by kernel_rfl) (by simp) ?_
   refine zu rfl (fun KK hKK=>?_) AllReadyH.nil
   refine zk (by rfl) 58 [.tmp 16] _ [.int .i64 kd] _ (by rfl) (by rfl) (ZW _) (CK.out w54) ?_
   rintro e w55 ⟨rfl,hw55⟩
   refine⟨_,rfl,?_⟩
   have hw55':=hw55.symm
   subst hw55'
   refine hKK.out _ _ hHeld (fun hHeld=>?_)
   clear hKK KK
   try simp only[Act.put,sL]
   refine wpAnyH_ready (rs:=[10]) (by kernel_rfl) (by simp) ?_
   refine zu rfl (fun KK hKK=>?_) AllReadyH.nil
   obtain⟨w56,HW56⟩:=nm_ (w54.alloc (.cells #[.string yu,.string Kn] 9))
   obtain⟨b56,Hb56⟩:=nm_ w54.heap.size
   have hL56:L2 b56 yu Kn w56:=by rw[<-HW56.out,<-Hb56.out];exact qj _ _ _
   have hb56:Below w54.heap.size w54 w56:=by rw[<-HW56.out];exact(Below.refl _ _).alloc (Nat.le_refl _) _
   refine zZ (by rfl) (.slice (some ⟨b56,0,none⟩) 2 2) (w':=w56) (by rw[<-HW56.out,<-Hb56.out];unfold yu;go_simp) ?_
   have hs56:G<w56.heap.size:=Nat.lt_of_lt_of_le hs54 hb56.size
   have HB56:Hid (Below G w w56):=HB54.out.trans (hb56.mono (Nat.le_of_lt hs54))
   have s22x56:=s22x54.below hb56
   refine hKK.out _ _ (hHeld.below hs54 hb56) (fun hHeld=>?_)
   clear hKK KK hb56
   try simp only[Act.put,sL]
   refine wpAnyH_ready (rs:=[11]) (by kernel_rfl) (by simp) ?_
   refine zu rfl (fun KK hKK=>?_) AllReadyH.nil
   refine zk (by rfl) 124 [.tmp 18] _ [.slice (some ⟨b56,0,none⟩) 2 2] _ (by rfl) (by rfl) (qX _) (CL2.out w56 _ hL56) ?_
   rintro e w57 ⟨rfl,hb57⟩
   refine⟨_,rfl,?_⟩
   have hs57:G<w57.heap.size:=Nat.lt_of_lt_of_le hs56 hb57.size
   have HB57:Hid (Below G w w57):=HB56.out.trans (hb57.mono (Nat.le_of_lt hs56))
   have s22x57:=s22x56.below hb57
   refine hKK.out _ _ (hHeld.below hs56 hb57) (fun hHeld=>?_)
   clear hKK KK hb57
   try simp only[Act.put,sL]
   refine wpAnyH_ready (rs:=[15]) (by kernel_rfl) (by simp) ?_
   refine zu rfl (fun KK hKK=>?_) AllReadyH.nil
   refine zk (by rfl) 124 [.tmp 22] _ [.slice (some ⟨b52,0,none⟩) 2 2] _ (by rfl) (by rfl) (qX _) (CL3.out w57 _ s22x57) ?_
   rintro e w58 ⟨rfl,hb58⟩
   refine⟨_,rfl,?_⟩
   have hs58:G<w58.heap.size:=Nat.lt_of_lt_of_le hs57 hb58.size
   have HB58:Hid (Below G w w58):=HB57.out.trans (hb58.mono (Nat.le_of_lt hs57))
   refine hKK.out _ _ (hHeld.below hs57 hb58) (fun hHeld=>?_)
   clear hKK KK hb58
   try simp only[Act.put,sL]
   refine wpAnyH_ready (rs:=[18]) (by kernel_rfl) (by simp) ?_
   refine zu rfl (fun KK hKK=>?_) AllReadyH.nil
   refine zk (by rfl) 126 [.tmp 25] _ [.agg #[.string P1,.string P2,.int .i64 tm,.int .i64 zn]] _ (by rfl) (by rfl) (jj _) (CP.out w58 HB58.out) ?_
   rintro e w59 ⟨rfl,hb59⟩
   refine⟨_,rfl,?_⟩
   have hs59:G<w59.heap.size:=Nat.lt_of_lt_of_le hs58 hb59.size
   have HB59:Hid (Below G w w59):=HB58.out.trans (hb59.mono (Nat.le_of_lt hs58))
   refine hKK.out _ _ (hHeld.below hs58 hb59) (fun hHeld=>?_)
   clear hKK KK hb59
   try simp only[Act.put,sL]
   refine wpAnyH_ready (rs:=[19]) (by kernel_rfl) (by simp) ?_
   refine zu rfl (fun KK hKK=>?_) AllReadyH.nil
   obtain⟨w60,HW60⟩:=nm_ (w59.alloc (.cells #[.string qk,.string Pt] 9))
   obtain⟨b60,Hb60⟩:=nm_ w59.heap.size
   have hL60:L2 b60 qk Pt w60:=by rw[<-HW60.out,<-Hb60.out];exact qj _ _ _
   have hb60:Below w59.heap.size w59 w60:=by rw[<-HW60.out];exact(Below.refl _ _).alloc (Nat.le_refl _) _
   refine zZ (by rfl) (.slice (some ⟨b60,0,none⟩) 2 2) (w':=w60) (by rw[<-HW60.out,<-Hb60.out];unfold qk;go_simp) ?_
   have hs60:G<w60.heap.size:=Nat.lt_of_lt_of_le hs59 hb60.size
   have HB60:Hid (Below G w w60):=HB59.out.trans (hb60.mono (Nat.le_of_lt hs59))
   refine hKK.out _ _ (hHeld.below hs59 hb60) (fun hHeld=>?_)
   clear hKK KK hb60
   try simp only[Act.put,sL]
   refine wpAnyH_ready (rs:=[20]) (by kernel_rfl) (by simp) ?_
   refine zu rfl (fun KK hKK=>?_) AllReadyH.nil
   refine zk (by rfl) 124 [.tmp 27] _ [.slice (some ⟨b60,0,none⟩) 2 2] _ (by rfl) (by rfl) (qX _) (CL4.out w60 _ hL60) ?_
   rintro e w61 ⟨rfl,hb61⟩
   refine⟨_,rfl,?_⟩
   have hs61:G<w61.heap.size:=Nat.lt_of_lt_of_le hs60 hb61.size
   have HB61:Hid (Below G w w61):=HB60.out.trans (hb61.mono (Nat.le_of_lt hs60))
   refine hKK.out _ _ (hHeld.below hs60 hb61) (fun hHeld=>?_)
   clear hKK KK hb61
   try simp only[Act.put,sL]
   refine wpAnyH_ready (rs:=[21]) (by kernel_rfl) (by simp) ?_
   refine zu rfl (fun KK hKK=>?_) AllReadyH.nil
   obtain⟨w62,HW62⟩:=nm_ (w61.alloc (.cells #[.string S1,.string S2,.string S3,.string S4] 9))
   obtain⟨b62,Hb62⟩:=nm_ w61.heap.size
   have hL62:L4 b62 S1 S2 S3 S4 w62:=by rw[<-HW62.out,<-Hb62.out];exact jJ _ _ _ _ _
   have hb62:Below w61.heap.size w61 w62:=by rw[<-HW62.out];exact(Below.refl _ _).alloc (Nat.le_refl _) _
   refine zZ (by rfl) (.slice (some ⟨b62,0,none⟩) 4 4) (w':=w62) (by rw[<-HW62.out,<-Hb62.out];go_simp) ?_
   have hs62:G<w62.heap.size:=Nat.lt_of_lt_of_le hs61 hb62.size
   have HB62:Hid (Below G w w62):=HB61.out.trans (hb62.mono (Nat.le_of_lt hs61))
   refine hKK.out _ _ (hHeld.below hs61 hb62) (fun hHeld=>?_)
   clear hKK KK hb62
   try simp only[Act.put,sL]
   refine wpAnyH_ready (rs:=[22]) (by kernel_rfl) (by simp) ?_
   refine zu rfl (fun KK hKK=>?_) AllReadyH.nil
   refine zk (by rfl) 127 [.tmp 9,.tmp 29] _ [.string M,.slice (some ⟨b62,0,none⟩) 4 4] _ (by rfl) (by rfl) (ZK _ _) (CLT.out w62 _ hL62) ?_
   rintro e w63 ⟨hb63,gq,cq,rfl,hge,hmk⟩
   refine⟨_,rfl,?_⟩
   have HMK:Hid _:=hmk
   have HGE:Hid (G<=gq):=Nat.le_trans (Nat.le_of_lt hs62) hge
   clear hmk hge
   have hs63:G<w63.heap.size:=Nat.lt_of_lt_of_le hs62 hb63.size
   have HB63:Hid (Below G w w63):=HB62.out.trans (hb63.mono (Nat.le_of_lt hs62))
   refine hKK.out _ _ (hHeld.below hs62 hb63) (fun hHeld=>?_)
   clear hKK KK hb63
   try simp only[Act.put,sL]
   refine tZ (i:=23) hHeld ?_
   try simp only[Act.put,sL]
   refine tZ (i:=24) hHeld ?_
   try simp only[Act.put,sL]
   refine wpAnyH_done (by kernel_rfl) ?_ _
   go_wp2
   go_ret2
   exact PE.out _ gq cq HB63.out HGE.out HMK.out
 ·obtain⟨w64,HW64⟩:=nm_ (wd.alloc (.cells #[.string xk,.string N] 9))
  obtain⟨b64,Hb64⟩:=nm_ wd.heap.size
  have hL64:L2 b64 xk N w64:=by rw[<-HW64.out,<-Hb64.out];exact qj _ _ _
  have hb64:Below wd.heap.size wd w64:=by rw[<-HW64.out];exact(Below.refl _ _).alloc (Nat.le_refl _) _
  refine zZ (by rfl) (.slice (some ⟨b64,0,none⟩) 2 2) (w':=w64) (by rw[<-HW64.out,<-Hb64.out];unfold xk;go_simp) ?_
  have hs64:G<w64.heap.size:=Nat.lt_of_lt_of_le hsd hb64.size
  have HB64:Hid (Below G w w64):=HBd.out.trans (hb64.mono (Nat.le_of_lt hsd))
  refine hKK.out _ _ (hHeld.below hsd hb64) (fun hHeld=>?_)
  clear hKK KK hb64
  try simp only[Act.put,sL]
  refine wpAnyH_ready (rs:=[4]) (by kernel_rfl) (by simp) ?_
  refine zu rfl (fun KK hKK=>?_) AllReadyH.nil
  refine zk (by rfl) 125 [.tmp 11] _ [.agg R.toArray] _ (by rfl) (by rfl) (enter55 _) (CH.out w64) ?_
  rintro e w65 ⟨rfl,hb65⟩
  refine⟨_,rfl,?_⟩
  have hs65:G<w65.heap.size:=Nat.lt_of_lt_of_le hs64 hb65.size
  have HB65:Hid (Below G w w65):=HB64.out.trans (hb65.mono (Nat.le_of_lt hs64))
  have s22x65:=hL64.below hb65
  refine hKK.out _ _ (hHeld.below hs64 hb65) (fun hHeld=>?_)
  clear hKK KK hb65
  try simp only[Act.put,sL]
  refine wpAnyH_ready (rs:=[5]) (by kernel_rfl) (by simp) ?_
  refine zu rfl (fun KK hKK=>?_) AllReadyH.nil
  obtain⟨w66,HW66⟩:=nm_ (w65.alloc (.cells #[.string yQ,.string Hxs] 9))
  obtain⟨b66,Hb66⟩:=nm_ w65.heap.size
  have hL66:L2 b66 yQ Hxs w66:=by rw[<-HW66.out,<-Hb66.out];exact qj _ _ _
  have hb66:Below w65.heap.size w65 w66:=by rw[<-HW66.out];exact(Below.refl _ _).alloc (Nat.le_refl _) _
  refine zZ (by rfl) (.slice (some ⟨b66,0,none⟩) 2 2) (w':=w66) (by rw[<-HW66.out,<-Hb66.out];unfold yQ;go_simp) ?_
  have hs66:G<w66.heap.size:=Nat.lt_of_lt_of_le hs65 hb66.size
  have HB66:Hid (Below G w w66):=HB65.out.trans (hb66.mono (Nat.le_of_lt hs65))
  have s22x66:=s22x65.below hb66
  refine hKK.out _ _ (hHeld.below hs65 hb66) (fun hHeld=>?_)
  clear hKK KK hb66
  try simp only[Act.put,sL]
  refine wpAnyH_ready (rs:=[6]) (by kernel_rfl) (by simp) ?_
  refine zu rfl (fun KK hKK=>?_) AllReadyH.nil
  refine zk (by rfl) 124 [.tmp 13] _ [.slice (some ⟨b66,0,none⟩) 2 2] _ (by rfl) (by rfl) (qX _) (CL1.out w66 _ hL66) ?_
  rintro e w67 ⟨rfl,hb67⟩
  refine⟨_,rfl,?_⟩
  have hs67:G<w67.heap.size:=Nat.lt_of_lt_of_le hs66 hb67.size
  have HB67:Hid (Below G w w67):=HB66.out.trans (hb67.mono (Nat.le_of_lt hs66))
  have s22x67:=s22x66.below hb67
  refine hKK.out _ _ (hHeld.below hs66 hb67) (fun hHeld=>?_)
  clear hKK KK hb67
  try simp only[Act.put,sL]
  refine wpAnyH_ready (rs:=[9]) (by kernel_rfl) (by simp) ?_
  refine zu rfl (fun KK hKK=>?_) AllReadyH.nil
  refine zk (by rfl) 58 [.tmp 16] _ [.int .i64 kd] _ (by rfl) (by rfl) (ZW _) (CK.out w67) ?_
  rintro e w68 ⟨rfl,hw68⟩
  refine⟨_,rfl,?_⟩
  have hw68':=hw68.symm
  subst hw68'
  refine hKK.out _ _ hHeld (fun hHeld=>?_)
  clear hKK KK
  try simp only[Act.put,sL]
  refine wpAnyH_ready (rs:=[10]) (by kernel_rfl) (by simp) ?_
  refine zu rfl (fun KK hKK=>?_) AllReadyH.nil
  obtain⟨w69,HW69⟩:=nm_ (w67.alloc (.cells #[.string yu,.string Kn] 9))
  obtain⟨b69,Hb69⟩:=nm_ w67.heap.size
  have hL69:L2 b69 yu Kn w69:=by rw[<-HW69.out,<-Hb69.out];exact qj _ _ _
  have hb69:Below w67.heap.size w67 w69:=by rw[<-HW69.out];exact(Below.refl _ _).alloc (Nat.le_refl _) _
  refine zZ (by rfl) (.slice (some ⟨b69,0,none⟩) 2 2) (w':=w69) (by rw[<-HW69.out,<-Hb69.out];unfold yu;go_simp) ?_
  have hs69:G<w69.heap.size:=Nat.lt_of_lt_of_le hs67 hb69.size
  have HB69:Hid (Below G w w69):=HB67.out.trans (hb69.mono (Nat.le_of_lt hs67))
  have s22x69:=s22x67.below hb69
  refine hKK.out _ _ (hHeld.below hs67 hb69) (fun hHeld=>?_)
  clear hKK KK hb69
  try simp only[Act.put,sL]
  refine wpAnyH_ready (rs:=[11]) (by kernel_rfl) (by simp) ?_
  refine zu rfl (fun KK hKK=>?_) AllReadyH.nil
  refine zk (by rfl) 124 [.tmp 18] _ [.slice (some ⟨b69,0,none⟩) 2 2] _ (by rfl) (by rfl) (qX _) (CL2.out w69 _ hL69) ?_
  rintro e w70 ⟨rfl,hb70⟩
  refine⟨_,rfl,?_⟩
  have hs70:G<w70.heap.size:=Nat.lt_of_lt_of_le hs69 hb70.size
  have HB70:Hid (Below G w w70):=HB69.out.trans (hb70.mono (Nat.le_of_lt hs69))
  have s22x70:=s22x69.below hb70
  refine hKK.out _ _ (hHeld.below hs69 hb70) (fun hHeld=>?_)
  clear hKK KK hb70
  try simp only[Act.put,sL]
  refine wpAnyH_ready (rs:=[15]) (by kernel_rfl) (by simp) ?_
  refine zu rfl (fun KK hKK=>?_) AllReadyH.nil
  refine zk (by rfl) 124 [.tmp 22] _ [.slice (some ⟨b64,0,none⟩) 2 2] _ (by rfl) (by rfl) (qX _) (CL3.out w70 _ s22x70) ?_
  rintro e w71 ⟨rfl,hb71⟩
  refine⟨_,rfl,?_⟩
  have hs71:G<w71.heap.size:=Nat.lt_of_lt_of_le hs70 hb71.size
  have HB71:Hid (Below G w w71):=HB70.out.trans (hb71.mono (Nat.le_of_lt hs70))
  refine hKK.out _ _ (hHeld.below hs70 hb71) (fun hHeld=>?_)
  clear hKK KK hb71
  try simp only[Act.put,sL]
  refine wpAnyH_ready (rs:=[18]) (by kernel_rfl) (by simp) ?_
  refine zu rfl (fun KK hKK=>?_) AllReadyH.nil
  refine zk (by rfl) 126 [.tmp 25] _ [.agg #[.string P1,.string P2,.int .i64 tm,.int .i64 zn]] _ (by rfl) (by rfl) (jj _) (CP.out w71 HB71.out) ?_
  rintro e w72 ⟨rfl,hb72⟩
  refine⟨_,rfl,?_⟩
  have hs72:G<w72.heap.size:=Nat.lt_of_lt_of_le hs71 hb72.size
  have HB72:Hid (Below G w w72):=HB71.out.trans (hb72.mono (Nat.le_of_lt hs71))
  refine hKK.out _ _ (hHeld.below hs71 hb72) (fun hHeld=>?_)
  clear hKK KK hb72
  try simp only[Act.put,sL]
  refine wpAnyH_ready (rs:=[19]) (by kernel_rfl) (by simp) ?_
  refine zu rfl (fun KK hKK=>?_) AllReadyH.nil
  obtain⟨w73,HW73⟩:=nm_ (w72.alloc (.cells #[.string qk,.string Pt] 9))
  obtain⟨b73,Hb73⟩:=nm_ w72.heap.size
  have hL73:L2 b73 qk Pt w73:=by rw[<-HW73.out,<-Hb73.out];exact qj _ _ _
  have hb73:Below w72.heap.size w72 w73:=by rw[<-HW73.out];exact(Below.refl _ _).alloc (Nat.le_refl _) _
  refine zZ (by rfl) (.slice (some ⟨b73,0,none⟩) 2 2) (w':=w73) (by rw[<-HW73.out,<-Hb73.out];unfold qk;go_simp) ?_
  have hs73:G<w73.heap.size:=Nat.lt_of_lt_of_le hs72 hb73.size
  have HB73:Hid (Below G w w73):=HB72.out.trans (hb73.mono (Nat.le_of_lt hs72))
  refine hKK.out _ _ (hHeld.below hs72 hb73) (fun hHeld=>?_)
  clear hKK KK hb73
  try simp only[Act.put,sL]
  refine wpAnyH_ready (rs:=[20]) (by kernel_rfl) (by simp) ?_
  refine zu rfl (fun KK hKK=>?_) AllReadyH.nil
  refine zk (by rfl) 124 [.tmp 27] _ [.slice (some ⟨b73,0,none⟩) 2 2] _ (by rfl) (by rfl) (qX _) (CL4.out w73 _ hL73) ?_
  rintro e w74 ⟨rfl,hb74⟩
  refine⟨_,rfl,?_⟩
  have hs74:G<w74.heap.size:=Nat.lt_of_lt_of_le hs73 hb74.size
  have HB74:Hid (Below G w w74):=HB73.out.trans (hb74.mono (Nat.le_of_lt hs73))
  refine hKK.out _ _ (hHeld.below hs73 hb74) (fun hHeld=>?_)
  clear hKK KK hb74
  try simp only[Act.put,sL]
  refine wpAnyH_ready (rs:=[21]) (by kernel_rfl) (by simp) ?_
  refine zu rfl (fun KK hKK=>?_) AllReadyH.nil
  obtain⟨w75,HW75⟩:=nm_ (w74.alloc (.cells #[.string S1,.string S2,.string S3,.string S4] 9))
  obtain⟨b75,Hb75⟩:=nm_ w74.heap.size
  have hL75:L4 b75 S1 S2 S3 S4 w75:=by rw[<-HW75.out,<-Hb75.out];exact jJ _ _ _ _ _
  have hb75:Below w74.heap.size w74 w75:=by rw[<-HW75.out];exact(Below.refl _ _).alloc (Nat.le_refl _) _
  refine zZ (by rfl) (.slice (some ⟨b75,0,none⟩) 4 4) (w':=w75) (by rw[<-HW75.out,<-Hb75.out];go_simp) ?_
  have hs75:G<w75.heap.size:=Nat.lt_of_lt_of_le hs74 hb75.size
  have HB75:Hid (Below G w w75):=HB74.out.trans (hb75.mono (Nat.le_of_lt hs74))
  refine hKK.out _ _ (hHeld.below hs74 hb75) (fun hHeld=>?_)
  clear hKK KK hb75
  try simp only[Act.put,sL]
  refine wpAnyH_ready (rs:=[22]) (by kernel_rfl) (by simp) ?_
  refine zu rfl (fun KK hKK=>?_) AllReadyH.nil
  refine zk (by rfl) 127 [.tmp 9,.tmp 29] _ [.string M,.slice (some ⟨b75,0,none⟩) 4 4] _ (by rfl) (by rfl) (ZK _ _) (CLT.out w75 _ hL75) ?_
  rintro e w76 ⟨hb76,gq,cq,rfl,hge,hmk⟩
  refine⟨_,rfl,?_⟩
  have HMK:Hid _:=hmk
  have HGE:Hid (G<=gq):=Nat.le_trans (Nat.le_of_lt hs75) hge
  clear hmk hge
  have hs76:G<w76.heap.size:=Nat.lt_of_lt_of_le hs75 hb76.size
  have HB76:Hid (Below G w w76):=HB75.out.trans (hb76.mono (Nat.le_of_lt hs75))
  refine hKK.out _ _ (hHeld.below hs75 hb76) (fun hHeld=>?_)
  clear hKK KK hb76
  try simp only[Act.put,sL]
  refine tZ (i:=23) hHeld ?_
  try simp only[Act.put,sL]
  refine tZ (i:=24) hHeld ?_
  try simp only[Act.put,sL]
  refine wpAnyH_done (by kernel_rfl) ?_ _
  go_wp2
  go_ret2
  exact PE.out _ gq cq HB76.out HGE.out HMK.out
end Go.Proofs.YticgindfipobiaaGreatDoor
