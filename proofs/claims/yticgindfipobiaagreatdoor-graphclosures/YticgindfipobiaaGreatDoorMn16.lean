import Derived.Test.YticgindfipobiaaGreatDoorMn06
import Derived.Test.YticgindfipobiaaGreatDoorMn11
import Derived.Maps.AppendAt
set_option linter.unusedVariables false
set_option maxRecDepth 20000
set_option maxHeartbeats 4000000
namespace Go.Proofs.YticgindfipobiaaGreatDoor
open Go.RowKit
theorem qw {w:World} {B:Nat} {e:TypeId} {s:Nat} {v:Value} {n:Nat} {xs:List Value} (h:w.ownsRow B e s v n xs):∃ a cp,v=.slice a n cp:=by
 obtain⟨_,⟨rfl,rfl⟩ | ⟨g,cap,cur,rfl,_⟩⟩:=h
 ·exact⟨none,0,rfl⟩
 ·exact⟨_,cap,rfl⟩
theorem jK {P:Program} (w:World) {ops:Array Oper} {o:Oper} {a:Act} {K:Act->World->Prop} {Q:Exit->Act->World->Prop} {E:Prop} (hgd:o.guard=none) (s x:Operand) (t:TypeId)
  (ho:o.op=.call { callee:=.builtin .append,args:=#[s,x],argTypes:=#[t,t] })
  (base:Nat) (e:TypeId) (i:TypeInfo) (z:Value) (size bytes:Nat) (ht:P.underlying t=some (.slice e)) (hi:P.info? e=some i) (hz:i.zero=some z)
  (hsize:i.size=size) (hby:i.bytes=bytes) (hzs:z.cells.size=size) (hsz:0<size)
  (v:Value) (n:Nat) (xs:List Value) (hs:a.eval s=v) (hown:w.ownsRow base e size v n xs)
  (ad:Addr) (m c:Nat) (news:List Value) (hx:a.eval x=.slice (some ad) m c) (hl:news.length=m*size) (hnews:∀ j u,news[j]? = some u->w.cell? (ad.add j)=some u) (h1:∀ u ∈ news,u.oneCell'=true)
  (h63:n+m<=maxLen) (hbytes:(n+m)*bytes<=140737488355328) (hbase:base<=w.heap.size) (H:Nat) (hH:w.heap.size=H)
  (h:∀ (ao:Option Addr) (cap:Nat) (w':World),w'.ownsRow base e size (.slice ao (n+m:Nat) cap) (n+m) (xs++news)->w.grownBy w' v.ownBlock->((Value.slice ao (n+m:Nat) cap).ownBlock=v.ownBlock ∨ (Value.slice ao (n+m:Nat) cap).ownBlock=some H)->K (a.put o.dst (.slice ao (n+m:Nat) cap)) w') :
  if Region.wanted o (yielded ops a.tmps)=true then Oper.wp P o a w K Q else E:=by
 have hw:Region.wanted o (yielded ops a.tmps)=true:=by simp[Region.wanted,hgd]
 rw[if_pos hw]
 obtain⟨v',w',hr,h2,h3,_,h5⟩:=run_append_own_at (P:=P) w base t o.type e i z size bytes ht hi hz hsize hby hzs hsz v n xs hown ad m c news hl hnews h1 h63 hbytes hbase
 obtain⟨ao,cap,rfl⟩:=qw h2
 unfold Oper.wp execOp
 simp only[ho,resolve,invoke,builtin,Sem.run_bind,Sem.run_pure,Result.andThen_ok,List.map_toArray,List.map_cons,List.map_nil,hs,hx,hr]
 exact h ao cap w' h2 h3 (hH ▸ h5)
theorem Zv {P:Program} (w:World) {ops:Array Oper} {rest:List Oper} {o:Oper} {a:Act} {Q:Exit->Act->World->Prop} (hgd:o.guard=none) (s x:Operand) (t:TypeId)
  (ho:o.op=.call { callee:=.builtin .append,args:=#[s,x],argTypes:=#[t,t] })
  (base:Nat) (e:TypeId) (i:TypeInfo) (z:Value) (size bytes:Nat) (ht:P.underlying t=some (.slice e)) (hi:P.info? e=some i) (hz:i.zero=some z)
  (hsize:i.size=size) (hby:i.bytes=bytes) (hzs:z.cells.size=size) (hsz:0<size)
  (v:Value) (n:Nat) (xs:List Value) (hs:a.eval s=v) (hown:w.ownsRow base e size v n xs)
  (ad:Addr) (m c:Nat) (news:List Value) (hx:a.eval x=.slice (some ad) m c) (hl:news.length=m*size) (hnews:∀ j u,news[j]? = some u->w.cell? (ad.add j)=some u) (h1:∀ u ∈ news,u.oneCell'=true)
  (h63:n+m<=maxLen) (hbytes:(n+m)*bytes<=140737488355328) (hbase:base<=w.heap.size) (H:Nat) (hH:w.heap.size=H)
  (h:∀ (ao:Option Addr) (cap:Nat) (w':World),w'.ownsRow base e size (.slice ao (n+m:Nat) cap) (n+m) (xs++news)->w.grownBy w' v.ownBlock->((Value.slice ao (n+m:Nat) cap).ownBlock=v.ownBlock ∨ (Value.slice ao (n+m:Nat) cap).ownBlock=some H)->wpList P ops Q rest (a.put o.dst (.slice ao (n+m:Nat) cap)) w') :
  wpList P ops Q (o :: rest) a w :=
 wpList_plain hgd fun K hK=>by
  have:=jK (P:=P) w (ops:=ops) (o:=o) (a:=a) (K:=K) (Q:=Q) (E:=False) hgd s x t ho base e i z size bytes ht hi hz hsize hby hzs hsz v n xs hs hown ad m c news hx hl hnews h1 h63 hbytes hbase H hH (fun ao cap w' h2 h3 h4=>hK _ _ (h ao cap w' h2 h3 h4))
  rwa [if_pos (by simp[Region.wanted,hgd])] at this
theorem wpList_append_run {P:Program} {w:World} {ops:Array Oper} {rest:List Oper} {o:Oper} {a:Act} {Q:Exit->Act->World->Prop} (hgd:o.guard=none) (s x:Operand) (t:TypeId)
  (ho:o.op=.call { callee:=.builtin .append,args:=#[s,x],argTypes:=#[t,t] }) (sv xv v:Value) (w2:World) (hs:a.eval s=sv) (hx:a.eval x=xv) (hrun:(Builtin.append_ #[t,t] o.type #[sv,xv]).run P w=.ok v w2) (h:wpList P ops Q rest (a.put o.dst v) w2) :
  wpList P ops Q (o :: rest) a w :=
 wpList_plain hgd fun K hK=>by
  unfold Oper.wp execOp
  simp only[ho,resolve,invoke,builtin,Sem.run_bind,Sem.run_pure,Result.andThen_ok,List.map_toArray,List.map_cons,List.map_nil,hs,hx,hrun]
  exact hK _ _ h
theorem append_nil (cap:Nat) (w:World):(Builtin.append_ #[26,26] 26 #[.slice none 0 0,.slice none 0 cap]).run Tryz.prog w=.ok (.slice none 0 0) w:=by kernel_rfl
theorem append_first (a:Option Addr) (cap:Nat) (zs:List Int) (w:World) (B:Nat) (hB:B<=w.heap.size) (hl:zs.length<=300000) (hc:0<zs.length->∃ b off,a=some ⟨b,off,none⟩/\At w b off zs) :
  ∃ w1 ao cp,(Builtin.append_ #[26,26] 26 #[.slice none 0 0,.slice a zs.length cap]).run Tryz.prog w=.ok (.slice ao zs.length cp) w1/\w1.ownsRow B 5 1 (.slice ao zs.length cp) zs.length (row .u8 zs)/\w.grownBy w1 none:=by
 obtain⟨i5,hi,hz0,hz1,hz2⟩:=zQ Tryz.info5
 cases a with
 | none =>
  have h0:zs.length=0:=by
   rcases Nat.eq_zero_or_pos zs.length with h | h
   ·exact h
   ·obtain⟨b,off,h1,-⟩:=hc h;cases h1
  obtain rfl:zs=[]:=List.eq_nil_of_length_eq_zero h0
  exact⟨w,none,0,append_nil cap w,World.ownsRow_nil w B 5 1,World.grownBy.refl _ _⟩
 | some ad =>
  obtain⟨v',w',hr,h2,h3,-,-⟩:=run_append_own_at (P:=Tryz.prog) w B 26 26 5 i5 (.int .u8 0) 1 1 Tryz.underlying26 hi hz0 hz1 hz2 rfl (by omega) (.slice none 0 0) 0 [] (World.ownsRow_nil w B 5 1) ad zs.length cap (row .u8 zs) (by rw[zq];omega)
   (fun j u hj=>by
    have hjm:j<zs.length:=by rcases Nat.lt_or_ge j zs.length with h | h;exact h;rw[List.getElem?_eq_none (by rw[zq];exact h)] at hj;cases hj
    obtain⟨b,off,h1,hat⟩:=hc (by omega)
    cases h1
    rw[vq .u8 zs j hjm] at hj
    cases hj
    rw[qz];exact hat j hjm) (zV _ _) (by unfold maxLen;omega) (by omega) hB
  rw[Nat.zero_add,List.nil_append] at h2
  obtain⟨ao,cp,rfl⟩:=qw h2
  exact⟨w',ao,cp,hr,h2,h3⟩
theorem slice22lh (b L cp m:Nat) (w:World) (h1:m+64<=L) (h2:L<=cp):(Instr.slice 26 (.slice (some ⟨b,0,none⟩) L cp) (some (.int .i64 m)) (some (.int .i64 ((m:Int)+64))) none).run Tryz.prog w=.ok (.slice (some ⟨b,m,none⟩) 64 (cp-m:Nat)) w:=by
 rw[run_slice_lh w 26 _ L cp und22 .i64 .i64 m ((m:Int)+64) (by omega) (by omega) (by omega),size22r]
 simp only[Result.andThen_ok,sliced]
 rw[if_neg (by omega)]
 simp[qz]
 omega
theorem pad_iff2 (n j:Nat) (h:j<=vJ n):((n+1+j) % 64=56) ↔ j=vJ n:=by unfold vJ at *;omega
theorem ref_any (a:Option Addr) (cap:Nat) (zs:List Int) (w:World) (hl:zs.length<=300000) (hz:IsB zs) (hc:0<zs.length->∃ b off,a=some ⟨b,off,none⟩/\b<w.heap.size/\At w b off zs) :
  Calls Tryz.prog 11 #[.slice a zs.length cap] w fun e w'=>e=.returned (.agg (row .u8 (sha zs)).toArray)/\Below w.heap.size w w':=by
 obtain⟨i5,hi,hz0,hz1,hz2⟩:=zQ Tryz.info5
 obtain⟨zr,HZ⟩:=nn_ ((row .u8 z20).toArray)
 have hz24:=zero24
 rw[<-HZ.out] at hz24
 obtain⟨wA,HWA⟩:=nn_ (w.alloc (.cells zr 31))
 have hsA:wA.heap.size=w.heap.size+1:=by rw[HWA.out];simp
 have HRA:Hid (wA.heap[w.heap.size]? = some (.cells (row .u8 z20).toArray 31 (0,0))):=hid (by rw[HWA.out,HZ.out];exact heap_alloc_new w _)
 have HBA:Hid (Below w.heap.size w wA):=hid (by rw[HWA.out];exact(Below.refl _ w).alloc (Nat.le_refl _) _)
 obtain⟨w1,ao,cp,hrun,hown,hgrow⟩:=append_first a cap zs wA (w.heap.size+1) (by omega) hl (fun h=>by obtain⟨b,off,h1,h2,h3⟩:=hc h;exact⟨b,off,h1,fun i hi=>(HBA.out.cell (p:=⟨b,off+i,none⟩) h2).trans (h3 i hi)⟩)
 obtain⟨n,HN⟩:=nn_ zs.length
 rw[<-HN.out] at hrun hown hl ⊢
 have hg1:=hgrow.size
 have HR1:Hid (w1.heap[w.heap.size]? = some (.cells (row .u8 z20).toArray 31 (0,0))):=(hgrow.block _ (by omega) (by simp)).trans HRA.out
 have HB1:Hid (Below w.heap.size w w1):=HBA.out.grown hgrow (by omega) (fun k hk=>by cases hk)
 have hz1s:w.heap.size+1<=w1.heap.size:=by omega
 rw[HWA.out] at hrun
 clear hgrow hg1 HRA HBA hsA HWA
 go_enter Tryz.func11,Tryz.ntmps11
 go_wp2_with (first
  | refine wpList_append_run rfl _ _ 26 rfl (.slice none 0 0) (.slice a n cap) _ _ rfl rfl hrun ?_
  | (refine wpList_append_lies _ rfl _ _ _ rfl (w.heap.size+1) 5 i5 (.int .u8 0) 1 1 Tryz.underlying26 hi hz0 hz1 hz2 rfl (by omega) (.slice ao n cp) n (row .u8 zs) rfl (by exact hown.alloc _) ⟨w1.heap.size,0,none⟩ 1 1 [.int .u8 128] rfl rfl (by intro j u hj;match j,hj with | 0,hj=>simp at hj;subst hj;simp[Addr.add]) (by intro u hu;simp at hu;subst hu;rfl) (by omega) (by unfold maxLen;omega) (by omega) (by simp;omega) (w1.heap.size+1) (by simp) ?_;intro g2 cp2 w2 hown2 hgrow2 hat2 hlt2))
 have HX2:Hid (Below (w.heap.size+1) w1 w2):=vj (Below.refl _ _) hz1s (World.grownBy_alloc w1 _ none) hgrow2 (fun k hk=>(qW hown k hk).1)
 have HO2:Hid (w2.ownsRow (w.heap.size+1) 5 1 (.slice (some ⟨g2,0,none⟩) (n+1+0:Nat) cp2) (n+1+0) (row .u8 (zs++[128]))):=hid (by rw[QJ];exact hown2)
 clear hown2 hgrow2 hat2 hown hrun
 have hp63:=pads_le n
 go_loopg [3] (vJ n) (fun g s wr=>∃ (j gb cp:Nat) (ls:List Int),j<=vJ n/\g=vJ n-j/\s=.slice (some ⟨gb,0,none⟩) (n+1+j:Nat) cp/\Hid (ls=zs++128 :: List.replicate j 0)/\wr.ownsRow (w.heap.size+1) 5 1 (.slice (some ⟨gb,0,none⟩) (n+1+j:Nat) cp) (n+1+j) (row .u8 ls)/\Hid (Below (w.heap.size+1) w1 wr))
 case atStart=>exact⟨0,g2,cp2,zs++[128],by omega,rfl,rfl,rfl,HO2.out,HX2⟩
 case round =>
  clear HO2 HX2 hlt2
  obtain⟨j,gb,cp,ls,hj,hk,rfl,HLs,hown,HB⟩:=hrel
  by_cases hlt:j<vJ n
  ·have hc:((n:Int)+1+j) % 64 ≠ 56:=by have:=pad_iff2 n j hj;omega
   go_wp2_with (refine wpList_append_lies _ rfl _ _ _ rfl (w.heap.size+1) 5 i5 (.int .u8 0) 1 1 Tryz.underlying26 hi hz0 hz1 hz2 rfl (by omega) (.slice (some ⟨gb,0,none⟩) (n+1+j:Nat) cp) (n+1+j) (row .u8 ls) rfl (by exact hown.alloc _) ⟨wr.heap.size,0,none⟩ 1 1 [.int .u8 0] rfl rfl (by intro j u hj;match j,hj with | 0,hj=>simp at hj;subst hj;simp[Addr.add]) (by intro u hu;simp at hu;subst hu;rfl) (by omega) (by unfold maxLen;omega) (by omega) (by have:=HB.out.size;simp;omega) (wr.heap.size+1) (by simp) ?_;intro g2 cp2 w3 hown1 hgrow hat hlt2)
   have HB2:Hid (Below (w.heap.size+1) w1 w3):=vj HB.out hz1s (World.grownBy_alloc wr _ none) hgrow (fun k hk=>(qW hown k hk).1)
   have HO:Hid (w3.ownsRow (w.heap.size+1) 5 1 (.slice (some ⟨g2,0,none⟩) (n+1+j+1:Nat) cp2) (n+1+j+1) (row .u8 (ls++[0]))):=hid (by rw[QJ];exact hown1)
   clear hown1 hgrow hat hown hlt2
   go_wp2
   go_roundg (vJ n-(j+1))
   case measure=>omega
   case rel=>exact⟨j+1,g2,cp2,ls++[0],by omega,rfl,rfl,hid (by rw[HLs.out,List.replicate_succ',List.append_assoc,List.cons_append]),HO.out,HB2⟩
  ·obtain rfl:j=vJ n:=by omega
   have hc0:(n+1+vJ n) % 64=56:=(pad_iff2 n (vJ n) (Nat.le_refl _)).2 rfl
   obtain⟨q,HQ⟩:=nn_ (n+1+vJ n)
   have hq64:q<=n+64:=by have:=HQ.out;omega
   rw[<-HQ.out] at hown
   have hc2:(q:Int) % 64=56:=by have:=HQ.out;omega
   rw[<-HQ.out]
   have HLq:Hid (ls=zs++128 :: List.replicate (vJ n) 0):=HLs.out
   clear hlt hj hk hc0
   go_wp2
   clear hc2
   go_loopg [3,5] 8 (fun g s i wr=>∃ (j gb cp:Nat) (ls:List Int),j<=8/\g=8-j/\i=.int .i64 (7-(j:Int))/\s=.slice (some ⟨gb,0,none⟩) (q+j:Nat) cp/\Hid (ls=zs++(128 :: List.replicate (vJ n) 0++(List.range j).map (be8 (8*n))))/\wr.ownsRow (w.heap.size+1) 5 1 (.slice (some ⟨gb,0,none⟩) (q+j:Nat) cp) (q+j) (row .u8 ls)/\Hid (Below (w.heap.size+1) w1 wr))
   case atStart=>exact⟨0,gb,cp,ls,by omega,rfl,rfl,rfl,hid (by rw[HLq.out];simp),hown,HB⟩
   case round =>
    clear hown HB
    obtain⟨j,gb,cp,ls,hj,hk,rfl,rfl,HLs,hown,HB⟩:=hrel
    by_cases hlt:j<8
    ·obtain⟨x,HX⟩:=nn_ (be8 (8*n) j)
     obtain⟨k,HK⟩:=nn_ (7-j:Nat)
     have hk7:(7:Int)-j=(k:Int):=by have:=HK.out;omega
     have hk8:k<=7:=by have:=HK.out;omega
     rw[hk7]
     have hx:(n:Int)*8 / 2 ^ (8*k) % 256=x:=by rw[HX.out,HK.out];unfold be8;rw[Int.natCast_emod,Int.natCast_ediv,Int.natCast_mul,Int.natCast_pow,Int.mul_comm];rfl
     go_wp2_with (refine wpList_append_lies _ rfl _ _ _ rfl (w.heap.size+1) 5 i5 (.int .u8 0) 1 1 Tryz.underlying26 hi hz0 hz1 hz2 rfl (by omega) (.slice (some ⟨gb,0,none⟩) (q+j:Nat) cp) (q+j) (row .u8 ls) rfl (by exact hown.alloc _) ⟨wr.heap.size,0,none⟩ 1 1 [.int .u8 x] rfl rfl (by intro j u hj;match j,hj with | 0,hj=>simp at hj;subst hj;simp[Addr.add]) (by intro u hu;simp at hu;subst hu;rfl) (by omega) (by unfold maxLen;omega) (by omega) (by have:=HB.out.size;simp;omega) (wr.heap.size+1) (by simp) ?_;intro g2 cp2 w3 hown1 hgrow hat hlt2)
     have HB2:Hid (Below (w.heap.size+1) w1 w3):=vj HB.out hz1s (World.grownBy_alloc wr _ none) hgrow (fun k hk=>(qW hown k hk).1)
     have HO:Hid (w3.ownsRow (w.heap.size+1) 5 1 (.slice (some ⟨g2,0,none⟩) (q+j+1:Nat) cp2) (q+j+1) (row .u8 (ls++[x]))):=hid (by rw[QJ];exact hown1)
     clear hown1 hgrow hat hown hx hlt2
     go_wp2
     go_roundg (8-(j+1))
     case measure=>omega
     case rel=>exact⟨j+1,g2,cp2,ls++[x],by omega,rfl,by have:=HK.out;go_num,rfl,hid (by rw[HLs.out,HX.out,List.range_succ,List.map_append,List.append_assoc,List.append_assoc];rfl),HO.out,HB2⟩
    ·obtain rfl:j=8:=by omega
     have HE:Hid (ls=zs++jz n):=hid (by rw[HLs.out];rfl)
     obtain⟨T,HT⟩:=nn_ (q+8)
     have hTl:ls.length=T:=by rw[HE.out,List.length_append,Yv,<-HN.out];have:=HT.out;have:=HQ.out;omega
     have hT64:T % 64=0:=by have:=end_mod n;rw[<-hTl,HE.out,List.length_append,<-HN.out];exact this
     have hTb:T<=300200:=by have:=HT.out;omega
     have hlsb:IsB ls:=by rw[HE.out];exact hz.app (endOf_isB n)
     rw[<-HT.out] at hown
     rw[<-HT.out]
     have hcpT:T<=cp:=by
      rcases hown.2 with ⟨_,h0⟩ | ⟨g,cap,cur,hv,_,_,h1,_⟩
      ·have:=HT.out;omega
      ·simp only[Value.slice.injEq] at hv;omega
     have hgbl:=qW hown gb rfl
     have HAt:Hid (∀ i,i<T->wr.cell? ⟨gb,i,none⟩=some (.int .u8 (ls.getD i 0))):=fun i hi=>by rw[hown.cellAt i (by omega),vq .u8 ls i (by omega)]
     have HRB:Hid (wr.heap[w.heap.size]? = some (.cells (row .u8 z20).toArray 31 (0,0))):=(HB.out.block _ (by omega)).trans HR1.out
     have HBB:Hid (Below w.heap.size w wr):=HB1.out.trans (HB.out.mono (by omega))
     obtain⟨wB,rfl⟩:∃ wB,wB=wr:=⟨_,rfl⟩
     have hzB:w.heap.size+1<=wB.heap.size:=by have:=HB.out.size;omega
     have HTh:Hid ((wB.alloc (.cells #[.int .u32 0,.int .u32 0,.int .u32 0,.int .u32 0,.int .u32 0] 64)).there wB.heap.size 0 5):=xy (heap_alloc_new wB _) rfl
     obtain⟨w5,HW5⟩:=nn_ ((wB.alloc (.cells #[.int .u32 0,.int .u32 0,.int .u32 0,.int .u32 0,.int .u32 0] 64)).setCells wB.heap.size 0 (#[.int .u32 1732584193,.int .u32 4023233417,.int .u32 2562383102,.int .u32 271733878,.int .u32 3285377520] : Array Value).toList)
     have H9:Hid (w5.heap[wB.heap.size]? = some (.cells #[.int .u32 1732584193,.int .u32 4023233417,.int .u32 2562383102,.int .u32 271733878,.int .u32 3285377520] 64 (0,0))):=hid (by rw[HW5.out];exact setCells5 _ _ _ _ _ _ _ _ _ _ _ _ _ (heap_alloc_new wB _))
     have HX5:Hid (Below wB.heap.size wB w5):=hid (by rw[HW5.out];exact z7 (Nat.le_refl _) _ _ _ _ ((Below.refl _ _).alloc (Nat.le_refl _) _))
     have hz5:wB.heap.size<w5.heap.size:=by rw[HW5.out,xY];simp
     replace hown:=hid hown
     replace hTl:=hid hTl
     obtain⟨NB,HNB⟩:=nn_ (T / 64)
     have hNB:Hid (T=64*NB):=hid (by have:=HNB.out;omega)
     clear hj hk hlt
     go_wp2_with (refine wpList_store_mid rfl 64 _ _ rfl wB.heap.size 0 _ rfl rfl HTh.out Tryz.size64 (by simp[Value.oneCell']) ?_;rw[<-HW5.out])
     go_loopg [7] NB (fun g i wr=>∃ (k:Nat) (s:S5),k<=NB/\g=NB-k/\i=.int .i64 (64*k:Nat)/\Hid (s=ab ls k)/\Hid (wr.heap[wB.heap.size]? = some (.cells #[.int .u32 s.a,.int .u32 s.b,.int .u32 s.c,.int .u32 s.d,.int .u32 s.e] 64 (0,0)))/\Hid (Below wB.heap.size wB wr)/\wB.heap.size<wr.heap.size)
     case atStart=>exact⟨0,init5,by omega,rfl,rfl,rfl,H9,HX5,hz5⟩
     case round =>
      clear H9 HX5 hz5
      obtain⟨k,⟨a0,b0,c0,d0,e0⟩,hk,hg,rfl,HSt,HR,HBr,hzr⟩:=hrel
      obtain⟨p,HP⟩:=nn_ (64*k)
      rw[<-HP.out]
      by_cases hlt:k<NB
      ·have hpT:(p:Int)<T:=by have:=HP.out;have:=hNB.out;omega
       have hp64:p+64<=T:=by have:=HP.out;have:=hNB.out;omega
       obtain⟨q0,q1,q2,q3,q4⟩:=V4 HR.out
       obtain⟨ck,HCK⟩:=nn_ ((ls.drop (64*k)).take 64)
       have hckl:ck.length=64:=by rw[HCK.out,List.length_take,List.length_drop,hTl.out];have:=HP.out;omega
       have hckb:IsB ck:=by rw[HCK.out];exact(hlsb.drop _).take _
       have hat:At wr gb p ck:=fun i hi=>by
        have e:ck.getD i 0=ls.getD (p+i) 0:=by rw[HCK.out,List.getD_eq_getElem?_getD,List.getElem?_take,if_pos (by omega),List.getElem?_drop,<-List.getD_eq_getElem?_getD,HP.out]
        rw[e];exact(HBr.out.cell (p:=⟨gb,p+i,none⟩) hgbl.2).trans (HAt.out _ (by omega))
       have hwp:IntKind.i64.wrap ((p:Int)+64)=(p:Int)+64:=by rw[IntKind.wrap_i64];omega
       have hsl:=fun w=>slice22lh gb T cp p w hp64 hcpT
       obtain⟨cpx,HCX⟩:=nn_ (cp-p)
       rw[<-HCX.out] at hsl
       obtain⟨s1,HS1⟩:=nn_ (comp ⟨a0,b0,c0,d0,e0⟩ ck)
       have hblk:=fun w1 (h:At w1 gb p ck) (h2:gb<w1.heap.size)=>block_any ⟨a0,b0,c0,d0,e0⟩ gb p cpx ck w1 (by rw[HSt.out];exact ab_ok _ _) hckl hckb h h2
       rw[<-HS1.out] at hblk
       obtain⟨x0,x1,x2,x3,x4⟩:=s1
       have hblk':∀ w1,At w1 gb p ck->gb<w1.heap.size->Calls Tryz.prog 21 #[.agg #[.int .u32 a0,.int .u32 b0,.int .u32 c0,.int .u32 d0,.int .u32 e0],.slice (some ⟨gb,p,none⟩) 64 cpx] w1 fun e w'=>e=.returned (.agg #[.int .u32 x0,.int .u32 x1,.int .u32 x2,.int .u32 x3,.int .u32 x4])/\Below w1.heap.size w1 w':=hblk
       clear hblk
       have hgz:gb<wr.heap.size:=by omega
       replace hckl:=hid hckl
       go_wp2
       go_region_with (go_at_call 21;refine(hblk' _ (by exact hat) (by exact hgz)).mono ?_;rintro e w6 ⟨rfl,hb6⟩;have H6:=hid ((hb6.block wB.heap.size hzr).trans HR.out);obtain⟨y0,y1,y2,y3,y4⟩:=V4 H6.out;have g0:=frozen_of_row w6 wB.heap.size 0 _ 64 H6.out;have g1:=frozen_of_row w6 wB.heap.size 1 _ 64 H6.out;have g2:=frozen_of_row w6 wB.heap.size 2 _ 64 H6.out;have g3:=frozen_of_row w6 wB.heap.size 3 _ 64 H6.out;have g4:=frozen_of_row w6 wB.heap.size 4 _ 64 H6.out;replace hb6:=hid hb6)
       have HF6:Hid ((((((w6.setCell ⟨wB.heap.size,0,none⟩ (.int .u32 x0)).setCell ⟨wB.heap.size,1,none⟩ (.int .u32 x1)).setCell ⟨wB.heap.size,2,none⟩ (.int .u32 x2)).setCell ⟨wB.heap.size,3,none⟩ (.int .u32 x3)).setCell ⟨wB.heap.size,4,none⟩ (.int .u32 x4)).heap[wB.heap.size]? = some (.cells #[.int .u32 x0,.int .u32 x1,.int .u32 x2,.int .u32 x3,.int .u32 x4] 64 (0,0))):=setCells5 w6 wB.heap.size 64 _ _ _ _ _ _ _ _ _ _ H6.out
       have HG6:Hid (Below wB.heap.size wB (((((w6.setCell ⟨wB.heap.size,0,none⟩ (.int .u32 x0)).setCell ⟨wB.heap.size,1,none⟩ (.int .u32 x1)).setCell ⟨wB.heap.size,2,none⟩ (.int .u32 x2)).setCell ⟨wB.heap.size,3,none⟩ (.int .u32 x3)).setCell ⟨wB.heap.size,4,none⟩ (.int .u32 x4))):=z7 (Nat.le_refl _) [.int .u32 x0,.int .u32 x1,.int .u32 x2,.int .u32 x3,.int .u32 x4] 0 _ _ (HBr.out.trans (Below.mono (show Below wr.heap.size wr w6 from ⟨hb6.out.os,hb6.out.tape,hb6.out.output,hb6.out.size,hb6.out.block⟩) (by omega)))
       have hz6:wB.heap.size<w6.heap.size:=Nat.lt_of_lt_of_le hzr hb6.out.size
       clear y0 y1 y2 y3 y4 g0 g1 g2 g3 g4 q0 q1 q2 q3 q4 hsl hwp hblk' hat
       go_wp2
       go_roundg (NB-(k+1))
       case measure=>omega
       case rel=>exact⟨k+1,⟨x0,x1,x2,x3,x4⟩,by omega,rfl,by have:=HP.out;go_num,hid (by rw[HS1.out,HSt.out,HCK.out];rfl),HF6,HG6,by simpa [World.setCell] using hz6⟩
      ·obtain rfl:k=NB:=by omega
       have hpT:p=T:=by have:=HP.out;have:=hNB.out;omega
       subst hpT
       obtain⟨s5,HS5⟩:=nn_ (⟨a0,b0,c0,d0,e0⟩:S5)
       have HSH:Hid (sha zs=vY s5 20):=hid (by unfold sha;rw[HS5.out,HSt.out,<-HN.out,<-HE.out,hTl.out,<-HNB.out])
       have hok:S5.ok s5:=by rw[HS5.out,HSt.out];exact ab_ok _ _
       obtain⟨sl,HSL⟩:=nn_ s5.l
       have hsll:sl.length=5:=by rw[HSL.out];rfl
       have hslw:IsW sl:=by rw[HSL.out];exact l_isW' s5 hok
       have HH:Hid (wr.heap[wB.heap.size]? = some (.cells (row .u32 sl).toArray 64 (0,0))):=hid (by rw[HSL.out,HS5.out];exact HR.out)
       have HRr:Hid (wr.heap[w.heap.size]? = some (.cells (row .u8 z20).toArray 31 (0,0))):=(HBr.out.block _ (by omega)).trans HRB.out
       have HBw:Hid (Below w.heap.size w wr):=HBB.out.trans (HBr.out.mono (by omega))
       obtain⟨wC,rfl⟩:∃ wC,wC=wr:=⟨_,rfl⟩
       have HI3:Hid ((wC.alloc (.cells zr 31)).heap[wC.heap.size]? = some (.cells (row .u8 (vY s5 (4*0))).toArray 31 (0,0))):=hid (by rw[outAt_zero,<-HZ.out];exact heap_alloc_new wC _)
       have HR4:Hid ((wC.alloc (.cells zr 31)).heap[w.heap.size]? = some (.cells (row .u8 z20).toArray 31 (0,0))):=hid (by rw[Below.heap_alloc _ _ _ (by omega)];exact HRr.out)
       have HH4:Hid ((wC.alloc (.cells zr 31)).heap[wB.heap.size]? = some (.cells (row .u32 sl).toArray 64 (0,0))):=hid (by rw[Below.heap_alloc _ _ _ (by omega)];exact HH.out)
       have HB4:Hid (Below w.heap.size w (wC.alloc (.cells zr 31))):=HBw.out.alloc (by omega) _
       have hwC:w.heap.size<wB.heap.size:=by omega
       clear HR HRr HH HBw
       go_wp2
       go_loopg [9] 5 (fun g i wr=>∃ j:Nat,j<=5/\g=5-j/\i=.int .i64 j/\Hid (wr.heap[wC.heap.size]? = some (.cells (row .u8 (vY s5 (4*j))).toArray 31 (0,0)))/\Hid (wr.heap[w.heap.size]? = some (.cells (row .u8 z20).toArray 31 (0,0)))/\Hid (wr.heap[wB.heap.size]? = some (.cells (row .u32 sl).toArray 64 (0,0)))/\Hid (Below w.heap.size w wr))
       case atStart=>exact⟨0,by omega,rfl,rfl,HI3,HR4,HH4,HB4⟩
       case round =>
        clear HI3 HR4 HH4 HB4
        obtain⟨j,hj,hg2,rfl,HI,HR,HH,HBx⟩:=hrel
        by_cases hlt2:j<5
        ·obtain⟨x,HX⟩:=nn_ (sl.getD j 0)
         have hx:U x:=by rw[HX.out];exact hslw.at j
         obtain⟨hx1,hx2⟩:=hx
         obtain⟨m,HM⟩:=nn_ (4*j)
         have hm:(4:Int)*j=(m:Int):=by have:=HM.out;omega
         have hm16:m<=16:=by have:=HM.out;omega
         rw[<-HM.out] at HI
         go_wp2
         go_loopg [10] 4 (fun g i wr=>∃ c:Nat,c<=4/\g=4-c/\i=.int .i64 c/\Hid (wr.heap[wC.heap.size]? = some (.cells (row .u8 (vY s5 (m+c))).toArray 31 (0,0)))/\Hid (wr.heap[w.heap.size]? = some (.cells (row .u8 z20).toArray 31 (0,0)))/\Hid (wr.heap[wB.heap.size]? = some (.cells (row .u32 sl).toArray 64 (0,0)))/\Hid (Below w.heap.size w wr))
         case atStart=>exact⟨0,by omega,rfl,rfl,HI,HR,HH,HBx⟩
         case round =>
          clear HI HR HH HBx
          obtain⟨c,hc4,hg3,rfl,HI,HR,HH,HBx⟩:=hrel
          by_cases hlt3:c<4
          ·have cx:wr.cell? ⟨wB.heap.size,j,none⟩=some (.int .u32 x):=by rw[HX.out];exact qx HH.out j (by omega)
           have d0:=qx HI.out (m+c) (by rw[Z8];omega)
           have f0:=frozen_of_row wr wC.heap.size (m+c) _ 31 HI.out
           obtain⟨sh,HSHF⟩:=nn_ (24-8*c:Nat)
           have hsh:(24:Int)-8*c=(sh:Int):=by have:=HSHF.out;omega
           have hsh2:sh<=24:=by have:=HSHF.out;omega
           have bi:(j:Int)<5:=by omega
           go_wp2
           go_roundg (4-(c+1))
           case measure=>omega
           case rel =>
            refine⟨c+1,by omega,rfl,by go_num,hid ?_,hid ?_,hid ?_,HBx.out.setCell (by show w.heap.size<=wC.heap.size;omega) _⟩
            ·rw[heap_setCell_same wr _ _ _ _ _ HI.out,xu,<-Nat.add_assoc,ju s5 (m+c) (by omega),show (m+c) / 4=j from by have:=HM.out;omega,show (m+c) % 4=c from by have:=HM.out;omega,<-HSHF.out,<-HSL.out,<-HX.out]
            ·rw[Below.heap_setCell wr ⟨wC.heap.size,m+c,none⟩ _ w.heap.size (by show w.heap.size ≠ wC.heap.size;omega)];exact HR.out
            ·rw[Below.heap_setCell wr ⟨wC.heap.size,m+c,none⟩ _ wB.heap.size (by show wB.heap.size ≠ wC.heap.size;omega)];exact HH.out
          ·obtain rfl:c=4:=by omega
           go_wp2
           go_roundg (5-(j+1))
           case measure=>omega
           case rel=>exact⟨j+1,by omega,rfl,by go_num,hid (by rw[show 4*(j+1)=m+4 from by have:=HM.out;omega];exact HI.out),HR,HH,HBx⟩
        ·obtain rfl:j=5:=by omega
         obtain⟨fr,HFR⟩:=nn_ (vY s5 (4*5))
         rw[<-HFR.out] at HI
         have hfl:fr.length=20:=by rw[HFR.out];exact Z8 _ _
         have HEf:Hid (fr=sha zs):=hid (by rw[HFR.out,HSH.out])
         have hi24:(Tryz.prog.info? 31).map (·.size)=some (row .u8 fr).length:=by rw[zq,hfl];exact Tryz.size31
         have T1:Hid (wr.there w.heap.size 0 (row .u8 fr).toArray.size):=hid (by rw[qZ,hfl];exact zW HR.out rfl)
         have T2:Hid ((Tryz.prog.info? 31).map (·.size)=some (row .u8 fr).toArray.size):=hid (by rw[qZ,hfl];exact Tryz.size31)
         have T3:Hid ((row .u8 fr).toArray.all (·.oneCell')=true):=all_oneCell_toArray (zV _ _)
         have T4:Hid (wr.there w.heap.size 0 (row .u8 fr).length):=hid (by rw[zq,hfl];exact zW HR.out rfl)
         go_wp2_with (first | refine wpList_load_mid rfl 31 _ rfl wC.heap.size 0 rfl (row .u8 fr) _ (zx HI.out) Tryz.underlying31 rfl hi24 ?_ | refine wpList_store_mid rfl 31 _ _ rfl w.heap.size 0 (row .u8 fr).toArray rfl rfl T1.out T2.out T3.out ?_)
         exact bodyPost_ret (v:=.agg (row .u8 fr).toArray) (yq Tryz.results11 _ _ w.heap.size _ _ rfl (World.rangeAt_setCells_same wr w.heap.size 0 _ T4.out) Tryz.underlying31 rfl hi24) rfl ⟨by rw[HEf.out],z7 (Nat.le_refl _) _ _ _ _ HBx.out⟩
end Go.Proofs.YticgindfipobiaaGreatDoor
