import Derived.Test.YticgindfipobiaaGreatDoorMn33
import Derived.Laws.BitsAllLaws
import Derived.Test.YticgindfipobiaaGreatDoorMn29
import Derived.Test.YticgindfipobiaaGreatDoorMn30
import Derived.Test.YticgindfipobiaaGreatDoorMn07
set_option linter.unusedSectionVars false
set_option linter.unusedSimpArgs false
set_option linter.unusedVariables false
set_option maxRecDepth 20000
set_option maxHeartbeats 4000000
namespace Go.Proofs.YticgindfipobiaaGreatDoor
open Go.RowKit
structure Db (w:World):Prop where
 c7:w.cell? ⟨6,7,none⟩=some (.int .u8 3)
theorem Db.below {w w':World} (h:Db w) (hb:Below w.heap.size w w'):Db w':=⟨(hb.cell (p:=⟨6,7,none⟩) (ZX h.c7)).trans h.c7⟩
theorem pow2_8 (w:World):Calls Tryz.prog 191 #[.int .i64 8] w fun e w'=>e=.returned (.bool true)/\w'=w:=by
 go_enter Tryz.func191,Tryz.ntmps191
 go_wp2
 go_ret
 exact⟨rfl,rfl⟩
theorem tz64_8 (w:World) (h:Db w):Calls Tryz.prog 222 #[.int .u64 8] w fun e w'=>e=.returned (.int .i64 3)/\w'=w:=by
 have c:=h.c7
 have e1:bits BinOp.and IntKind.u64 8 (IntKind.u64.wrap (-8))=8:=by kernel_rfl
 have e2:IntKind.u64.wrap (8*285870213051353865) / 288230376151711744=7:=by kernel_rfl
 have e3:IntKind.u64.wrap 2286961704410830920 / 288230376151711744=7:=by kernel_rfl
 go_enter Tryz.func222,Tryz.ntmps222
 go_wp2
 go_ret
 exact⟨rfl,rfl⟩
theorem tz_8 (w:World) (h:Db w):Calls Tryz.prog 192 #[.int .u64 8] w fun e w'=>e=.returned (.int .i64 3)/\w'=w:=by
 go_enter Tryz.func192,Tryz.ntmps192
 go_wp2_with (go_at_call 222;refine(tz64_8 _ h).mono ?_;rintro ev w1 ⟨rfl,rfl⟩)
 go_ret
 exact⟨rfl,rfl⟩
def o8 (n:Nat):List UInt8:=if h:n<8 then [UInt8.ofNat (48+n)] else o8 (n / 8)++[UInt8.ofNat (48+n % 8)]
theorem Vw (n:Nat) (h:n<8):o8 n=[UInt8.ofNat (48+n)]:=by rw[o8,dif_pos h]
theorem o8_big (n:Nat) (h:¬ n<8):o8 n=o8 (n / 8)++[UInt8.ofNat (48+n % 8)]:=by rw[o8,dif_neg h]
theorem o8_pos (n:Nat):1<=(o8 n).length:=by
 by_cases h:n<8
 ·rw[Vw n h];simp
 ·rw[o8_big n h];simp
theorem o8_len:∀ (k n:Nat),n<8 ^ (k+1)->(o8 n).length<=k+1
 | 0,n,h=>by rw[Vw n (by simpa using h)];simp
 | k+1,n,h=>by
  by_cases h8:n<8
  ·rw[Vw n h8];simp
  ·rw[o8_big n h8,List.length_append]
   have:=o8_len k (n / 8) (by rw[Nat.pow_succ] at h;exact Nat.div_lt_of_lt_mul (by rw[Nat.mul_comm];exact h))
   simp;omega
def dg:ByteArray:=⟨#[48,49,50,51,52,53,54,55,56,57,97,98,99,100,101,102,103,104,105,106,107,108,109,110,111,112,113,114,115,116,117,118,119,120,121,122]⟩
theorem dig_at (d:Nat) (h:d<8) (w:World):(Instr.index 9 (.string dg) (.int .u64 d)).run Tryz.prog w=.ok (.int .u8 (48+d:Nat)) w:=by
 match d,h with
 | 0,_=>show _=_;kernel_rfl
 | 1,_=>show _=_;kernel_rfl
 | 2,_=>show _=_;kernel_rfl
 | 3,_=>show _=_;kernel_rfl
 | 4,_=>show _=_;kernel_rfl
 | 5,_=>show _=_;kernel_rfl
 | 6,_=>show _=_;kernel_rfl
 | 7,_=>show _=_;kernel_rfl
theorem and7 (v:Nat) (h:v<65536):bits BinOp.and IntKind.u64 (v:Int) 7=((v % 8:Nat):Int):=by
 have:=u64_and_nat v 7 (by omega) (by omega)
 rw[nat_mask3] at this
 exact this
def z8 (i:Nat) (ds:List UInt8):List Int:=List.replicate i 0++ds.map fun b=>(b.toNat:Int)
theorem z8_set (i:Nat) (ds:List UInt8) (b:UInt8):(z8 (i+1) ds).set i (b.toNat:Int)=z8 i (b :: ds):=by
 unfold z8
 rw[List.replicate_succ',List.append_assoc,List.set_append_right _ _ (by simp)]
 simp
theorem z8_len (i:Nat) (ds:List UInt8):(z8 i ds).length=i+ds.length:=by simp[z8]
theorem zero279:Tryz.zeroCells289=(row .u8 (z8 65 [])).toArray:=by kernel_rfl
theorem str_nums (l:List UInt8):strOfNums (l.map fun b=>(b.toNat:Int))=⟨l.toArray⟩:=by
 unfold strOfNums
 rw[List.map_map,show ((fun n:Int=>UInt8.ofNat n.toNat) ∘ fun b:UInt8=>(b.toNat:Int))=id from funext fun b=>by simp,List.map_id]
structure D8 (w:World) (g i:Nat) (ds:List UInt8) (W:World):Prop where
 box:W.heap[g]? = some (.cells (row .u8 (z8 i ds)).toArray 289 (0,0))
 bel:Below g w W
theorem D8.step {w:World} {g i:Nat} {ds:List UInt8} {W:World} (h:D8 w g (i+1) ds W) (b:UInt8):D8 w g i (b :: ds) (W.setCell ⟨g,i,none⟩ (.int .u8 b.toNat)):=by
 refine⟨?_,h.bel.setCell (p:=⟨g,i,none⟩) (Nat.le_refl _) _⟩
 rw[heap_setCell_same W g i _ 289 _ h.box,xu,z8_set]
theorem fmt8 (u:Nat) (hu:u<65536) (w:World) (h:Db w):Calls Tryz.prog 171 #[.slice none 0 0,.int .u64 u,.int .i64 8,.bool false,.bool false] w fun e w'=>e=.returned (.tuple #[.slice none 0 0,.string ⟨(o8 u).toArray⟩])/\Below w.heap.size w w':=by
 have HT:Hid (∀ W,Below w.heap.size w W->Calls Tryz.prog 192 #[.int .u64 8] W fun e w'=>e=.returned (.int .i64 3)/\w'=W):=fun W hW=>tz_8 W (h.below hW)
 obtain⟨g,HG⟩:=nm_ w.heap.size
 have HD0:Hid (D8 w g 65 [] (w.alloc (.cells Tryz.zeroCells289 289))):=hid (by
  rw[<-HG.out,zero279]
  exact⟨heap_alloc_new w _,(Below.refl _ w).alloc (Nat.le_refl _) _⟩)
 have HU6:Hid ((o8 u).length<=6):=hid (o8_len 5 u (by omega))
 go_enter Tryz.func171,Tryz.ntmps171
 go_wp2_with (go_at_call 191;refine(pow2_8 _).mono ?_;rintro ev w1 ⟨rfl,rfl⟩)
 have HW1:Hid (Below w.heap.size w (w.alloc (.cells Tryz.zeroCells289 289))):=(Below.refl _ w).alloc (Nat.le_refl _) _
 refine(HT.out _ HW1.out).mono ?_
 rintro ev w1 ⟨rfl,hw1⟩
 subst hw1
 go_wp2_with fail
 rw[HG.out]
 clear HW1
 obtain⟨w0,HW0⟩:=nm_ (w.alloc (.cells Tryz.zeroCells289 289))
 rw[HW0.out] at HD0 ⊢
 go_loopg [1,13] u (fun m uv iv wr=>∃ (v i:Nat) (ds:List UInt8),Hid (v=m)/\v<=u/\uv=.int .u64 v/\iv=.int .i64 i/\i+ds.length=65/\Hid (o8 v++ds=o8 u)/\Hid (D8 w g i ds wr))
 case atStart=>exact⟨u,65,[],hid rfl,Nat.le_refl _,rfl,rfl,rfl,hid (by simp),HD0⟩
 case round =>
  obtain⟨v,i,ds,hvm,hvu,rfl,rfl,hil,HE,HD⟩:=hrel
  have hlen:ds.length<=5:=by
   have h1:=congrArg List.length HE.out
   rw[List.length_append] at h1
   have:=o8_pos v
   have:=HU6.out
   omega
  obtain⟨j,hj⟩:∃ j,i=j+1:=⟨i-1,by omega⟩
  subst hj
  have hjl:j<65:=by omega
  have hji:(j:Int)<65:=by omega
  have hjs:(j:Int)+1-1=j:=by omega
  have kj:wr.cell? ⟨g,j,none⟩=some (.int .u8 ((z8 (j+1) ds).getD j 0)):=qx HD.out.box j (by rw[z8_len];omega)
  have fj:wr.frozen? ⟨g,j,none⟩=false:=by
   have:=HD.out.box
   simp[World.frozen?,this]
  by_cases hv:v<8
  ·have hvi:¬ (8:Int)<=(v:Int):=by omega
   have hdx:=fun w=>dig_at v hv w
   unfold dg at hdx
   obtain⟨W2,HW2⟩:=nm_ (wr.setCell ⟨g,j,none⟩ (.int .u8 (48+v:Nat)))
   have HDS:Hid (D8 w g j (UInt8.ofNat (48+v) :: ds) W2):=hid (by
    have:=HD.out.step (UInt8.ofNat (48+v))
    rwa [show (UInt8.ofNat (48+v)).toNat=48+v by rw[UInt8.toNat_ofNat'];omega,HW2.out] at this)
   have HES:Hid (UInt8.ofNat (48+v) :: ds=o8 u):=hid (by rw[<-HE.out,Vw v hv];rfl)
   obtain⟨n,HNN⟩:=nm_ (65-j)
   have hn1:(65:Int)-j=n:=by have:=HNN.out;omega
   have hn2:65-j=n:=HNN.out
   have HCV:Hid (∀ dst,Tryz.prog.underlying dst=some .string->(convert 26 dst (.slice (some ⟨g,j,none⟩) n n)).run Tryz.prog W2=.ok (.string (strOfNums ((o8 u).map fun b=>(b.toNat:Int)))) W2):=hid (by
    rw[<-HES.out]
    refine run_convert_bytes_arg W2 26 5 Tryz.underlying26 Tryz.underlying5 g j n n _ (by simp;have:=HNN.out;omega) fun i hi=>?_
    rw[qx HDS.out.box (j+i) (by rw[z8_len];simp;have:=HNN.out;omega)]
    simp[z8,List.getD_eq_getElem?_getD,List.getElem?_append_right])
   have hj0:(0:Int)<=(j:Int):=by omega
   have hj65:(j:Int)<=65:=by omega
   have hjne:¬ (65:Nat)=j:=by omega
   have hsl:∀ w,(Instr.sliceAt 289 (.pointer (some ⟨g,0,none⟩)) (some (.int .i64 j)) none none).run Tryz.prog w=.ok (.slice (some ⟨g,j,none⟩) n n) w:=fun w=>by
    go_simp
   have HW3:Hid (wr.setCell ⟨g,j,none⟩ (.int .u8 (48+(v:Int)))=W2):=hid (by rw[<-HW2.out];push_cast;rfl)
   have HTE:Hid (strOfNums ((o8 u).map fun b=>(b.toNat:Int))=⟨(o8 u).toArray⟩):=hid (str_nums _)
   have hcv:=HCV.out 9 Tryz.underlying9
   rw[HTE.out] at hcv
   have HBL:Hid (Below g w W2):=HDS.out.bel
   obtain⟨T,HTT⟩:=nm_ ((⟨(o8 u).toArray⟩:ByteArray):ByteArray)
   rw[HTT.out] at hcv
   have hcv2:(convert 26 9 (.slice (some ⟨g,j,none⟩) n n)).run Tryz.prog (wr.setCell ⟨g,j,none⟩ (.int .u8 (48+(v:Int))))=.ok (.string T) (wr.setCell ⟨g,j,none⟩ (.int .u8 (48+(v:Int)))):=by rw[HW3.out];exact hcv
   have HB3:Hid (Below g w (wr.setCell ⟨g,j,none⟩ (.int .u8 (48+(v:Int))))):=hid (by rw[HW3.out];exact HBL.out)
   clear hcv
   go_wp2
   go_ret2
   exact⟨by rw[HTT.out];rfl,by rw[HG.out];exact HB3.out⟩
  ·have hvi:(8:Int)<=(v:Int):=by omega
   obtain⟨d,Hd⟩:=nm_ (v % 8)
   have ha:=and7 v (by omega)
   have hdx:=fun w=>dig_at (v % 8) (Nat.mod_lt _ (by omega)) w
   rw[Hd.out] at ha hdx
   obtain⟨q,Hq⟩:=nm_ (v / 8)
   have hshr:(v:Int) / 8=(q:Int):=by have:=Hq.out;omega
   have hd8:d<8:=by have:=Hd.out;omega
   have HDS:Hid (D8 w g j (UInt8.ofNat (48+d) :: ds) (wr.setCell ⟨g,j,none⟩ (.int .u8 (48+d:Nat)))):=hid (by
    have:=HD.out.step (UInt8.ofNat (48+d))
    rwa [show (UInt8.ofNat (48+d)).toNat=48+d by rw[UInt8.toNat_ofNat'];omega] at this)
   have HES:Hid (o8 q++(UInt8.ofNat (48+d) :: ds)=o8 u):=hid (by
    rw[<-HE.out,o8_big v hv,Hq.out,Hd.out]
    simp)
   have hqv:q<v:=by have:=Hq.out;omega
   have hvm2:=hvm.out
   have HQM:Hid (q<gk):=hid (by rw[<-hvm2];exact hqv)
   clear hvm2
   unfold dg at hdx
   go_wp2
   go_roundg q
   case measure=>exact HQM.out
   case rel=>exact⟨q,j,_,hid rfl,by omega,rfl,rfl,by simp;omega,HES,HDS⟩
theorem fmtInt8 (u:Nat) (hu:u<65536) (w:World) (h:Db w):Calls Tryz.prog 141 #[.int .i64 u,.int .i64 8] w fun e w'=>e=.returned (.string ⟨(o8 u).toArray⟩)/\Below w.heap.size w w':=by
 have HF:Hid (Calls Tryz.prog 171 #[.slice none 0 0,.int .u64 u,.int .i64 8,.bool false,.bool false] w fun e w'=>e=.returned (.tuple #[.slice none 0 0,.string ⟨(o8 u).toArray⟩])/\Below w.heap.size w w'):=fmt8 u hu w h
 have h0:¬ (u:Int)<0:=by omega
 have hw:IntKind.u64.wrap (u:Int)=u:=wrap_u64 u (by omega)
 go_enter Tryz.func141,Tryz.ntmps141
 go_wp2_with fail
 refine HF.out.mono ?_
 rintro e w1 ⟨rfl,hb⟩
 go_wp2
 go_ret
 exact⟨rfl,hb⟩
theorem fmtI8 (u:Nat) (hu:u<65536) (w:World) (h:Db w):Calls Tryz.prog 155 #[.int .i64 u,.int .i64 8] w fun e w'=>e=.returned (.string ⟨(o8 u).toArray⟩)/\Below w.heap.size w w':=by
 have HF:Hid (Calls Tryz.prog 141 #[.int .i64 u,.int .i64 8] w fun e w'=>e=.returned (.string ⟨(o8 u).toArray⟩)/\Below w.heap.size w w'):=fmtInt8 u hu w h
 go_enter Tryz.func155,Tryz.ntmps155
 go_wp2_with fail
 refine HF.out.mono ?_
 rintro e w1 ⟨rfl,hb⟩
 go_wp2
 go_ret
 exact⟨rfl,hb⟩
theorem o8_oct (m:Int) (h:okM m):o8 m.toNat=y7 m:=by
 rcases h with rfl | rfl | rfl | rfl <;> decide +kernel
theorem modeText_any (m:Int) (hm:okM m) (w:World) (h:Db w):Calls Tryz.prog 117 #[.int .i64 m] w fun e w'=>e=.returned (.string ⟨(y7 m).toArray⟩)/\Below w.heap.size w w':=by
 have hb:0<=m/\m<65536:=by rcases hm with rfl | rfl | rfl | rfl <;> decide
 have HF:Hid (Calls Tryz.prog 155 #[.int .i64 m,.int .i64 8] w fun e w'=>e=.returned (.string ⟨(y7 m).toArray⟩)/\Below w.heap.size w w'):=hid (by
  have:=fmtI8 m.toNat (by omega) w h
  rw[o8_oct m hm,Int.toNat_of_nonneg hb.1] at this
  exact this)
 clear hm
 go_enter Tryz.func117,Tryz.ntmps117
 go_wp2_with fail
 refine HF.out.mono ?_
 rintro e w1 ⟨rfl,hb⟩
 go_wp2
 go_ret
 exact⟨rfl,hb⟩
variable [Inhabited Er] [Inhabited En]
def PostW (es:List Er) (w:World) (e:Ending) (w':World):Prop:=Below w.heap.size w w'/\
 ((okL es/\∃ a cap,e=.returned (.tuple #[.slice a (zY (yx es)).length cap,.nilIface])/\Sl w' a cap (q8 (zY (yx es)))) ∨ (¬ okL es/\e=.returned (.tuple #[.slice none 0 0,.iface 43 (.int .i64 21)])))
theorem Bd.sl {w0 w:World} {B:Nat} {v:Value} {out:List Int} (h:Bd w0 w B v out):∃ a cap,v=.slice a out.length cap/\Sl w a cap out:=by
 by_cases h0:0<out.length
 ·obtain⟨g,cap,rfl,h1,h2,h3,h4⟩:=bd_form h h0
  exact⟨_,cap,rfl,⟨h4,fun _=>⟨g,0,rfl,h2,h3⟩,fun h=>by cases h⟩⟩
 ·have hz:out.length=0:=by omega
  obtain⟨_,⟨rfl,_⟩ | ⟨g,cap,cur,rfl,_,hh,hnc,_⟩⟩:=h.own
  ·exact⟨none,0,by rw[hz],⟨by omega,fun h=>absurd h h0,fun _=>rfl⟩⟩
  ·exact⟨some ⟨g,0,none⟩,cap,rfl,⟨hnc,fun h=>absurd h h0,fun h=>by cases h⟩⟩
theorem Bd.str {w0 w:World} {B:Nat} {v:Value} {out:List Int} (h:Bd w0 w B v out) (l:List UInt8) (hl:out.length+l.length<=1000000) :
  ∃ v' w',(Builtin.append_ #[26,9] 26 #[v,.string ⟨l.toArray⟩]).run Tryz.prog w=.ok v' w'/\Bd w0 w' B v' (out++q8 l)/\w.grownBy w' v.ownBlock:=by
 obtain⟨i5,hi,hz0,hz1,hz2⟩:=zQ Tryz.info5
 have hsz:(⟨l.toArray⟩:ByteArray).size=l.length:=by simp[ByteArray.size]
 obtain⟨v',w',hr,h1,h2,_⟩:=Lib.run_append_own_string (P:=Tryz.prog) w B 26 9 26 5 i5 Tryz.underlying26 Tryz.underlying9 hi hz0 hz1 hz2 v out.length _ h.own ⟨l.toArray⟩ (by rw[hsz];unfold maxLen;omega) (by rw[hsz];omega) h.le
 refine⟨v',w',hr,⟨h.below.grown h2 h.le (fun k hk=>(qW h.own k hk).1),?_,Nat.le_trans h.le h2.size⟩,h2⟩
 rw[List.length_append,zK,List.map_append,<-Xx]
 rw[hsz] at h1
 exact h1
structure QW (K:Nat) (m:Int) (N:ByteArray) (W:World):Prop where
 c0:W.cell? ⟨K,0,none⟩=some (.int .i64 m)
 c1:W.cell? ⟨K,1,none⟩=some (.string N)
theorem QW.below {K:Nat} {m:Int} {N:ByteArray} {W W':World} (h:QW K m N W) (hb:Below W.heap.size W W') (hK:K<W.heap.size):QW K m N W' :=
 ⟨(hb.cell (p:=⟨K,0,none⟩) hK).trans h.c0,(hb.cell (p:=⟨K,1,none⟩) hK).trans h.c1⟩
theorem QW.grown {K:Nat} {m:Int} {N:ByteArray} {W W':World} {r:Option Nat} (h:QW K m N W) (hg:W.grownBy W' r) (hK:K<W.heap.size) (hne:r ≠ some K):QW K m N W' :=
 ⟨(World.cell?_of_block (a:=⟨K,0,none⟩) (hg.block K hK (fun e=>hne e.symm))).trans h.c0,(World.cell?_of_block (a:=⟨K,1,none⟩) (hg.block K hK (fun e=>hne e.symm))).trans h.c1⟩
theorem enter47 (v:Value) (w:World):(callFunc 117 [v].toArray).run Tryz.prog w=.ok (.enter 117 [v].toArray) w:=by kernel_rfl
theorem enter46' (v:Value) (w:World):(callFunc 73 [v].toArray).run Tryz.prog w=.ok (.enter 73 [v].toArray) w:=by kernel_rfl
theorem words_two (x y:List UInt8) (w1 w2:World) (hx:x.length+y.length<=100000) (h:w2=w1.alloc (.cells #[.string ⟨x.toArray⟩,.string ⟨y.toArray⟩] 9)) :
  Calls Tryz.prog 73 #[.slice (some ⟨w1.heap.size,0,none⟩) 2 2] w2 fun e w'=>e=.returned (.string ⟨(x++32 :: y).toArray⟩)/\Below w2.heap.size w2 w':=by
 subst h
 have hj:(Lib.join ([(⟨x.toArray⟩:ByteArray),⟨y.toArray⟩].map (·.data.toList)) [32])=x++32 :: y:=by
  simp only[List.map_cons,List.map_nil,join_two]
 refine(words_any w1.heap.size 0 2 [⟨x.toArray⟩,⟨y.toArray⟩] _ ?_ ?_ (by simp) (by simp) (by rw[hj];simp;omega)).mono ?_
 ·intro i z hz
  rcases i with _ | _ | i
  ·simp at hz;subst hz;simp
  ·simp at hz;subst hz;simp
  ·simp at hz
 ·simp
 ·rintro e w' ⟨rfl,hb⟩
  rw[hj]
  exact⟨rfl,hb⟩
theorem Xj {w w0:World} {ops:Array Oper} {rest:List Oper} {o:Oper} {a:Act} {Q:Exit->Act->World->Prop} (hgd:o.guard=none) (s x:Operand) (ho:o.op=.call { callee:=.builtin .append,args:=#[s,x],argTypes:=#[26,26] }) (B:Nat) (v:Value) (out:List Int) (hs:a.eval s=v) (h:Bd w0 w B v out)
    (ax:Option Addr) (cx:Nat) (l:List Int) (hx:a.eval x=.slice ax l.length cx) (hS:Sl w ax cx l) (hl:out.length+l.length<=1000000)
    (hK:∀ v' w',Bd w0 w' B v' (out++l)->w.grownBy w' v.ownBlock->wpList Tryz.prog ops Q rest (a.put o.dst v') w'):wpList Tryz.prog ops Q (o :: rest) a w:=by
  obtain⟨i5,hi,hz0,hz1,hz2⟩:=zQ Tryz.info5
  cases ax with
  | none =>
    have hc:cx=0:=hS.nil rfl
    have hcl:=hS.capl
    obtain rfl:l=[]:=List.length_eq_zero_iff.1 (by omega)
    subst hc
    refine wpList_plain hgd fun K hK'=>?_
    have hr:=run_append_owned_none (P:=Tryz.prog) w B 26 o.type 5 i5 1 Tryz.underlying26 hi v _ _ h.own
    unfold Oper.wp execOp
    simp only[List.length_nil] at hx
    simp only[ho,resolve,invoke,builtin,Sem.run_bind,Sem.run_pure,Result.andThen_ok,List.map_toArray,List.map_cons,List.map_nil,hs,hx,hr]
    exact hK' _ _ (hK v w (by simpa using h) ⟨rfl,rfl,rfl,Nat.le_refl _,fun _ _ _=>rfl⟩)
  | some ad =>
    refine wpList_append_own_at w hgd s x 26 ho B 5 i5 (.int .u8 0) 1 1 Tryz.underlying26 hi hz0 hz1 hz2 rfl (by decide) v _ _ hs h.own ad l.length cx (l.map (Value.int .u8)) hx (by simp) ?_ (ints_oneCell .u8 l) (by unfold maxLen;omega) (by omega) h.le ?_
    · intro j z hj
      rw[List.getElem?_map] at hj
      cases hc:l[j]? with
      | none=>rw[hc] at hj;cases hj
      | some y =>
        rw[hc] at hj;cases hj
        have hlt:=(List.getElem?_eq_some_iff.1 hc).1
        obtain⟨b,off,e1,e2,e3⟩:=hS.at_ (by omega)
        cases e1
        have:=e3 j hlt
        rw[qz]
        simpa [List.getD_eq_getElem?_getD,hc] using this
    · intro v' w' h1 h2 h3 h4
      refine hK v' w' ⟨h.below.grown h2 h.le (fun k hk=>(qW h.own k hk).1),?_,Nat.le_trans h.le h2.size⟩ h2
      rw[List.length_append,List.map_append]
      exact h1
theorem Bd.ne {w0 w:World} {B K t:Nat} {v:Value} {out:List Int} {R:Array Value} (h:Bd w0 w B v out) (hb:w.heap[K]? = some (.cells R t (0,0))) (ht:t ≠ 5):v.ownBlock ≠ some K:=by
 intro hk
 obtain⟨_,⟨rfl,_⟩ | ⟨g,cap,cur,rfl,_,h2,_⟩⟩:=h.own
 ·cases hk
 ·simp[Value.ownBlock] at hk
  subst hk
  rw[h2] at hb
  simp at hb
  exact ht hb.2.symm
theorem Bd.keep {w0 w w':World} {B K t:Nat} {v:Value} {out:List Int} {R:Array Value} (h:Bd w0 w B v out) (hg:w.grownBy w' v.ownBlock) (hb:w.heap[K]? = some (.cells R t (0,0))) (ht:t ≠ 5):w'.heap[K]? = some (.cells R t (0,0)) :=
 (hg.block K (z6 hb) (fun e=>h.ne hb ht e.symm)).trans hb
theorem id_sl {w:World} {K t:Nat} {x:Er} {R:List Value} (hR:erV x=R) (hb:w.heap[K]? = some (.cells R.toArray t (0,0))) (hx:x.id.length=20):Sl w (some ⟨K,2,none⟩) 20 x.id :=
 ⟨by omega,fun _=>⟨K,2,rfl,z6 hb,fun j hj=>by
  have hr:=zx hb
  rw[<-hR] at hr
  have:=hr (2+j) (.int .u8 (x.id.getD j 0)) (by
   rw[Nat.add_comm 2 j]
   exact vq .u8 x.id j hj)
  simpa using this⟩,fun h=>by cases h⟩
theorem er_out (out:List Int) (x:Er) (h:∀ n ∈ x.id,0<=n/\n<256):((out++q8 (y7 x.mode++32 :: x.name))++[0])++x.id=out++q8 (erB x):=by
 have e1:q8 (erB x)=q8 (y7 x.mode++32 :: x.name)++(0 :: x.id):=by
  unfold erB
  rw[show y7 x.mode++32 :: (x.name++0 :: Lib.bytesOf x.id)=(y7 x.mode++32 :: x.name)++(0 :: Lib.bytesOf x.id) by simp,V1 (y7 x.mode++32 :: x.name)]
  congr 1
  show 0 :: q8 (Lib.bytesOf x.id)=_
  rw[XQ x.id h]
 rw[e1]
 simp
theorem writeTree_any (a:Option Addr) (cap:Nat) (es:List Er) (hwf:WfE es) (hn:es.length<=2000) (w:World) (hP:Pe w a cap es) (hd:Db w) :
  Calls Tryz.prog 79 #[.slice a es.length cap] w (PostW es w):=by
 obtain⟨n,HN⟩:=nm_ es.length
 obtain⟨G,HG⟩:=nm_ w.heap.size
 have hnn:n<=2000:=by rw[<-HN.out];exact hn
 obtain⟨zr,HZ⟩:=nn_ ((erV ⟨0,[],z20⟩).toArray:Array Value)
 have hz51:∀ w:World,(zeroValue 154).run Tryz.prog w=.ok (.agg zr) w:=fun w=>by rw[HZ.out];exact zero51 w
 have HD:Hid (∀ W,Below G w W->Db W):=fun W hW=>hd.below (by rw[HG.out];exact hW)
 have HWF:Hid (WfE es):=hwf
 have C42:Hid (Calls Tryz.prog 113 #[.slice a n cap] w fun e w'=>BIs (okL es) e/\Below w.heap.size w w'):=hid (by rw[<-HN.out];exact isTree_any a cap es hwf hn w hP)
 have HPA:Hid (∀ W,Below G w W->Pe W a cap es):=fun W hW=>hP.below (by rw[HG.out];exact hW)
 have HGS:Hid (G<=w.heap.size):=hid (by rw[HG.out];exact Nat.le_refl _)
 rw[HN.out]
 clear hP hd hwf
 go_enter Tryz.func79,Tryz.ntmps79
 go_wp2_with fail
 refine C42.out.mono ?_
 rintro ev w1 ⟨hbi,hb1⟩
 rw[HG.out] at hb1
 have HB1:Hid (Below G w w1):=hb1
 clear hb1
 rcases x8 hbi with ⟨hok,rfl⟩ | ⟨hno,rfl⟩
 rotate_left
 ·have HNO:Hid (¬ okL es):=hno
  clear hno hbi
  go_wp2
  go_ret2
  exact⟨by rw[HG.out];exact HB1.out,.inr ⟨HNO.out,rfl⟩⟩
 have HOK:Hid (okL es):=hok
 have HWN:Hid (WfN es):=fun x hx=>⟨(hok.1 x hx).2.2.1,(HWF.out x hx).1⟩
 clear hok hbi
 have hG1:G<=w1.heap.size:=Nat.le_trans HGS.out HB1.out.size
 obtain⟨wv,HWV⟩:=nm_ (w1.alloc (.cells #[.slice a n cap] 149))
 obtain⟨Bs,HBs⟩:=nm_ w1.heap.size
 have HBV:Hid (Below G w wv):=hid (by rw[<-HWV.out];exact HB1.out.alloc hG1 _)
 have HBX:Hid (Boxed wv Bs 149 (.slice a n cap)):=hid (by rw[<-HWV.out,<-HBs.out];exact heap_alloc_new w1 _)
 have C44:Hid (Calls Tryz.prog 115 #[.slice a n cap] w1 fun e w'=>e=.returned (.func (.func 152) #[] #[.pointer (some ⟨Bs,0,none⟩)])/\w'=wv):=hid (by
  have:=values_call a n cap w1
  rw[HWV.out,HBs.out] at this
  exact this)
 have C43:Hid (Calls Tryz.prog 114 #[.func (.func 152) #[] #[.pointer (some ⟨Bs,0,none⟩)],.func (.func 116) #[] #[]] wv (PostS wv es)):=hid
  (k8 Bs a cap es wv HWF.out HWN.out (HPA.out _ HBV.out) hn (by rw[HN.out];exact HBX.out))
 have hGv:G<=wv.heap.size:=Nat.le_trans HGS.out HBV.out.size
 go_wp2_with (first
  | (go_at_call 115;refine C44.out.mono ?_;rintro ev w' ⟨rfl,hw'⟩;have hw'':=hw'.symm;subst hw'';clear hw')
  | (go_at_call 114;refine C43.out.mono ?_;rintro ev w2 ⟨a1,cap1,es',rfl,hpm,hsr,hpe,hb2⟩;rw[HN.out];have hes:=srtE_one es es' (okL_keys HOK.out) hpm hsr;subst hes;have HPM:Hid ((yx es).Perm es):=hpm;have HPE2:Hid (Pe w2 a1 cap1 (yx es)):=hpe;have HB2:Hid (Below G w w2):=HBV.out.trans (hb2.mono hGv);clear hpm hsr hpe hb2))
 obtain⟨L,HL⟩:=nm_ (yx es)
 obtain⟨H,HH⟩:=nm_ w2.heap.size
 have HLN:Hid (L.length=n):=hid (by rw[<-HL.out,HPM.out.length_eq];exact HN.out)
 have HLX:Hid (∀ x ∈ L,okM x.mode/\okE x.name/\x.id.length=20/\∀ k ∈ x.id,0<=k/\k<256):=hid (by
  rw[<-HL.out]
  intro x hx
  have hx':=HPM.out.subset hx
  exact⟨(HOK.out.1 x hx').1,(HOK.out.1 x hx').2,HWF.out x hx'⟩)
 have HPL:Hid (∀ W,Below H w2 W->Pe W a1 cap1 L):=fun W hW=>by
  rw[<-HL.out]
  exact HPE2.out.below (by rw[HH.out];exact hW)
 have HPB:Hid (0<n->∃ b off,a1=some ⟨b,off,none⟩/\b<H):=fun h0=>by
  obtain⟨b,off,e1,e2,_⟩:=HPE2.out.at_ (by rw[HL.out,HLN.out];exact h0)
  exact⟨b,off,e1,by rw[<-HH.out];exact e2⟩
 have HD2:Hid (∀ W,Below H w2 W->Db W):=fun W hW=>HD.out W (HB2.out.trans (hW.mono (by rw[<-HH.out];exact Nat.le_trans HGS.out HB2.out.size)))
 have HGH:Hid (G<=H):=hid (by rw[<-HH.out];exact Nat.le_trans HGS.out HB2.out.size)
 have HTL:Hid (∀ i,(zY (L.take i)).length<=156000):=fun i=>by
  have h1:=treeB_len (L.take i) (fun x hx=>by
   have:=HLX.out x (List.mem_of_mem_take hx)
   exact⟨this.2.1.2.1,this.2.2.1⟩)
  have h2:(L.take i).length<=2000:=by rw[List.length_take,HLN.out];omega
  omega
 go_wp2_with fail
 go_loopg [4,15] n (fun g u iv wr=>∃ (i:Nat) (v:Value),v=u/\i<=n/\g=n-i/\iv=.int .i64 i/\Hid (Bd w2 wr H v (q8 (zY (L.take i)))))
 case atStart=>exact⟨0,_,rfl,Nat.zero_le _,rfl,rfl,hid (bd_nil w2 H (by rw[HH.out];exact Nat.le_refl _))⟩
 case round =>
  obtain⟨i,v,hv,hi,hk,rfl,HBD⟩:=hrel
  subst hv
  by_cases hlt:i<n
  ·have hlti:(i:Int)<(n:Int):=by omega
   obtain⟨b,off,hae,hbG⟩:=HPB.out (by omega)
   subst hae
   obtain⟨b',off',e1,e2,e3⟩:=(HPL.out wr HBD.out.below).at_ (by rw[HLN.out];omega)
   cases e1
   obtain⟨x,HX⟩:=nm_ (L.getD i default)
   have hxm:x ∈ L:=by
    rw[<-HX.out,List.getD_eq_getElem?_getD,List.getElem?_eq_getElem (by rw[HLN.out];exact hlt)]
    exact List.getElem_mem _
   have HXO:Hid (okM x.mode/\okE x.name/\x.id.length=20/\∀ k ∈ x.id,0<=k/\k<256):=hid (HLX.out x hxm)
   have hx20:=HXO.out.2.2.1
   obtain⟨R,HR⟩:=nm_ (erV x)
   obtain⟨S,HS⟩:=nm_ ((⟨x.name.toArray⟩:ByteArray):ByteArray)
   obtain⟨m,HM⟩:=nm_ x.mode
   obtain⟨O,HO⟩:=nm_ ((⟨(y7 m).toArray⟩:ByteArray):ByteArray)
   have RR:Hid (wr.rangeAt b (off+i*22) R):=hid (by rw[<-HR.out,<-HX.out];exact e3 i (by rw[HLN.out];exact hlt))
   have HFN:Hid (R.length=22):=hid (by rw[<-HR.out];exact yz x hx20)
   have hi51:(Tryz.prog.info? 154).map (·.size)=some R.length:=by rw[HFN.out];exact Q8
   have I51:Hid ((Tryz.prog.info? 154).map (·.size)=some R.toArray.size):=hid (by rw[List.size_toArray];exact hi51)
   have E51:Hid (zr.size=R.toArray.size):=hid (by rw[HZ.out,List.size_toArray,List.size_toArray,HFN.out];rfl)
   have O51:Hid (R.toArray.all (·.oneCell')=true):=hid (by rw[<-HR.out];exact all_oneCell_toArray (j0 _))
   have D0:Hid ((wr.alloc (.cells zr 154)).heap[wr.heap.size]? = some (.cells zr 154 (0,0))):=heap_alloc_new wr _
   obtain⟨w3,HW3⟩:=nm_ ((wr.alloc (.cells zr 154)).setRow wr.heap.size R.toArray)
   obtain⟨K,HK⟩:=nm_ wr.heap.size
   have hHK:H<=K:=by rw[<-HK.out];exact HBD.out.le
   have hb3:Below wr.heap.size wr w3:=by rw[<-HW3.out];exact below_setRow ((Below.refl _ wr).alloc (Nat.le_refl _) _) (Nat.le_refl _) _
   have B3:Hid (w3.heap[K]? = some (.cells R.toArray 154 (0,0))):=hid (by rw[<-HW3.out,<-HK.out];exact setRow_heap _ _ _ R.toArray _ _ D0.out)
   have hK3:K<w3.heap.size:=z6 B3.out
   have HBD3:Hid (Bd w2 w3.drew H v (q8 (zY (L.take i)))):=hid (HBD.out.carry (zJ hb3 1))
   have HQ3:Hid (QW K m S w3.drew):=hid (by
    have hr:=zx B3.out
    rw[<-HR.out] at hr
    exact⟨by rw[<-HM.out];simpa using hr 0 _ rfl,by rw[<-HS.out];simpa using hr 1 _ rfl⟩)
   have HVB:Hid (∀ k,v.ownBlock=some k->k<K):=fun k hk=>by rw[<-HK.out];exact(qW HBD.out.own k hk).2
   clear hb3 hxm e2 e3
   go_wp2_with (first
    | refine wpList_load_mid rfl 154 _ rfl b (off+i*22) rfl R _ RR.out Tryz.underlying154 rfl hi51 ?_
    | (refine wpList_store_row rfl 154 _ _ rfl wr.heap.size R.toArray rfl rfl 154 zr D0.out I51.out E51.out O51.out ?_;rw[HW3.out,HK.out])
    | fail)
   refine wp_region_held_drew (S:=QW K m S) (by kernel_rfl) (by exact HQ3.out) (fun hHeld=>?_)
   refine tZ (i:=0) hHeld ?_
   try simp only[Act.put,sL]
   refine tZ (i:=1) hHeld ?_
   try simp only[Act.put,sL]
   refine tZ (i:=2) hHeld ?_
   try simp only[Act.put,sL]
   refine tZ (i:=4) hHeld ?_
   try simp only[Act.put,sL]
   refine tZ (i:=5) hHeld ?_
   try simp only[Act.put,sL]
   have CM:Hid (Calls Tryz.prog 117 #[.int .i64 m] w3.drew fun e w'=>e=.returned (.string O)/\Below w3.heap.size w3.drew w'):=hid (by
    rw[<-HO.out]
    exact modeText_any m (by rw[<-HM.out];exact HXO.out.1) w3.drew (HD2.out _ HBD3.out.below))
   refine wpAnyH_ready (rs:=[3]) (by kernel_rfl) (by simp) ?_
   refine zu rfl (fun KK hKK=>?_) AllReadyH.nil
   refine zk (by rfl) 117 [.tmp 21] _ [.int .i64 m] _ (by rfl) (by rfl) (enter47 _) CM.out ?_
   rintro e w4 ⟨rfl,hb4⟩
   refine⟨_,rfl,?_⟩
   have HBD4:Hid (Bd w2 w4 H v (q8 (zY (L.take i)))):=hid (HBD3.out.carry hb4)
   have HQ4:Hid (QW K m S w4):=hid (HQ3.out.below hb4 hK3)
   have B4:Hid (w4.heap[K]? = some (.cells R.toArray 154 (0,0))):=hid ((hb4.block K hK3).trans B3.out)
   have hK4:K<w4.heap.size:=Nat.lt_of_lt_of_le hK3 hb4.size
   refine hKK.out _ _ HQ4.out (fun hHeld=>?_)
   clear hKK KK hb4
   try simp only[Act.put,sL]
   obtain⟨w5,HW5⟩:=nm_ (w4.alloc (.cells #[.string O,.string S] 9))
   obtain⟨q,HQB⟩:=nm_ w4.heap.size
   have hb5:Below w4.heap.size w4 w5:=by rw[<-HW5.out];exact(Below.refl _ _).alloc (Nat.le_refl _) _
   have HBD5:Hid (Bd w2 w5 H v (q8 (zY (L.take i)))):=hid (HBD4.out.carry hb5)
   have HQ5:Hid (QW K m S w5):=hid (HQ4.out.below hb5 hK4)
   have B5:Hid (w5.heap[K]? = some (.cells R.toArray 154 (0,0))):=hid ((hb5.block K hK4).trans B4.out)
   have hK5:K<w5.heap.size:=Nat.lt_of_lt_of_le hK4 hb5.size
   clear hb5
   refine wpAnyH_ready (rs:=[6]) (by kernel_rfl) (by simp) ?_
   refine zu rfl (fun KK hKK=>?_) AllReadyH.nil
   refine zZ (by rfl) (.slice (some ⟨q,0,none⟩) 2 2) (w':=w5) (by rw[<-HW5.out,<-HQB.out];go_simp) ?_
   refine hKK.out _ _ HQ5.out (fun hHeld=>?_)
   clear hKK KK
   try simp only[Act.put,sL]
   have CW:Hid (Calls Tryz.prog 73 #[.slice (some ⟨q,0,none⟩) 2 2] w5 fun e w'=>e=.returned (.string ⟨(y7 m++32 :: x.name).toArray⟩)/\Below w5.heap.size w5 w'):=hid (by
    rw[<-HQB.out]
    exact words_two (y7 m) x.name w4 w5 (by have:=ux m;have:=HXO.out.2.1.2.1;omega) (by rw[HO.out,HS.out,HW5.out]))
   refine wpAnyH_ready (rs:=[7]) (by kernel_rfl) (by simp) ?_
   refine zu rfl (fun KK hKK=>?_) AllReadyH.nil
   refine zk (by rfl) 73 [.tmp 25] _ [.slice (some ⟨q,0,none⟩) 2 2] _ (by rfl) (by rfl) (enter46' _) CW.out ?_
   rintro e w6 ⟨rfl,hb6⟩
   refine⟨_,rfl,?_⟩
   have HBD6:Hid (Bd w2 w6 H v (q8 (zY (L.take i)))):=hid (HBD5.out.carry hb6)
   have HQ6:Hid (QW K m S w6):=hid (HQ5.out.below hb6 hK5)
   have hK6:K<w6.heap.size:=Nat.lt_of_lt_of_le hK5 hb6.size
   have B6:Hid (w6.heap[K]? = some (.cells R.toArray 154 (0,0))):=hid ((hb6.block K hK5).trans B5.out)
   refine hKK.out _ _ HQ6.out (fun hHeld=>?_)
   clear hKK KK hb6
   try simp only[Act.put,sL]
   obtain⟨v7,w7,hr7,hbd7,hg7⟩:=HBD6.out.str (y7 m++32 :: x.name) (by have h1:=HTL.out i;have h2:=ux m;have h3:=HXO.out.2.1.2.1;rw[zK];simp only[List.length_append,List.length_cons];omega)
   have B7:Hid (w7.heap[K]? = some (.cells R.toArray 154 (0,0))):=hid (HBD6.out.keep hg7 B6.out (by decide))
   have HQ7:Hid (QW K m S w7):=hid (HQ6.out.grown hg7 hK6 (HBD6.out.ne B6.out (by decide)))
   have HBD7:Hid (Bd w2 w7 H v7 (q8 (zY (L.take i))++q8 (y7 m++32 :: x.name))):=hbd7
   refine wpAnyH_ready (rs:=[8]) (by kernel_rfl) (by simp) ?_
   refine zu rfl (fun KK hKK=>?_) AllReadyH.nil
   refine zZ (by rfl) v7 (w':=w7) (by unfold execOp;simp only[resolve,invoke,builtin,Sem.run_bind,Sem.run_pure,Result.andThen_ok,List.map_toArray,List.map_cons,List.map_nil];exact(congrArg (fun r=>Result.andThen r _) hr7).trans rfl) ?_
   refine hKK.out _ _ HQ7.out (fun hHeld=>?_)
   clear hKK KK hr7 hbd7 hg7
   try simp only[Act.put,sL]
   refine tZ (i:=9) hHeld ?_
   try simp only[Act.put,sL]
   refine wpAnyH_done (by kernel_rfl) ?_ _
   have hl7:(q8 (zY (L.take i))++q8 (y7 m++32 :: x.name)).length+1<=1000000:=by have h1:=HTL.out i;have h2:=ux m;have h3:=HXO.out.2.1.2.1;rw[List.length_append,zK,zK];simp only[List.length_append,List.length_cons];omega
   have hl8:((q8 (zY (L.take i))++q8 (y7 m++32 :: x.name))++[0]).length+x.id.length<=1000000:=by have h1:=HTL.out i;have h2:=ux m;have h3:=HXO.out.2.1.2.1;rw[List.length_append,List.length_append,zK,zK];simp only[List.length_append,List.length_cons,List.length_nil];omega
   clear hHeld
   go_wp2_with (first
    | (at_builtin;refine Xj rfl _ _ rfl H _ _ rfl (HBD7.out.alloc _) _ _ [0] rfl (sl_one _ _) hl7 ?_;intro v8 w8 hbd8 hg8;have B8:Hid (w8.heap[K]? = some (.cells R.toArray 154 (0,0))):=hid ((HBD7.out.alloc _).keep hg8 ((((Below.refl w7.heap.size w7).alloc (Nat.le_refl _) _).block K (z6 B7.out)).trans B7.out) (by decide));have HBD8:Hid (Bd w2 w8 H v8 ((q8 (zY (L.take i))++q8 (y7 m++32 :: x.name))++[0])):=hbd8;clear hbd8 hg8)
    | (at_builtin;refine Xj rfl _ _ rfl H _ _ rfl HBD8.out (some ⟨K,2,none⟩) 20 x.id (by rw[hx20];rfl) (id_sl HR.out B8.out hx20) hl8 ?_;intro v9 w9 hbd9 hg9;have HBD9:Hid (Bd w2 w9 H v9 (((q8 (zY (L.take i))++q8 (y7 m++32 :: x.name))++[0])++x.id)):=hbd9;clear hbd9 hg9)
    | fail)
   go_roundg (n-(i+1))
   case measure=>omega
   case rel =>
    refine⟨i+1,_,rfl,by omega,rfl,by go_num,hid ?_⟩
    have h9:=HBD9.out
    rw[<-HM.out,er_out _ x HXO.out.2.2.2,<-V1,<-treeB_snoc,<-HX.out,<-xK L i (by rw[HLN.out];exact hlt)] at h9
    exact h9
  ·have hlti:¬ (i:Int)<(n:Int):=by omega
   have htk:L.take i=L:=List.take_of_length_le (by rw[HLN.out];omega)
   have HBE:Hid (Bd w2 wr H v (q8 (zY L))):=hid (by have:=HBD.out;rw[htk] at this;exact this)
   obtain⟨a9,c9,rfl,hsl⟩:=HBE.out.sl
   have HSL:Hid (Sl wr a9 c9 (q8 (zY L))):=hsl
   have HBZ:Hid (Below G w wr):=hid (HB2.out.trans (HBE.out.below.mono HGH.out))
   clear htk hsl
   go_wp2
   go_ret2
   refine⟨by rw[HG.out];exact HBZ.out,.inl ⟨HOK.out,a9,c9,?_,?_⟩⟩
   ·rw[HL.out,<-zK (zY L)];rfl
   ·rw[HL.out];exact HSL.out
end Go.Proofs.YticgindfipobiaaGreatDoor
