import Derived.StillTactics
import Derived.StillTail
import Derived.Maps.AppendAt
import Derived.Test.YtiaaekdpfpaigaaGreatDoorMn03
import Derived.Test.YtiaaekdpfpaigaaGreatDoorMn01
set_option linter.unusedSimpArgs false
set_option linter.unusedVariables false
set_option maxRecDepth 20000
set_option maxHeartbeats 4000000
open List renaming ext_getElem->Wy0,getElem_map->Wy1,getElem_range->Wy2,length_replicate->Wy3,map_append->Wy4,replicate->WqV,size_toArray->WqW,take_of_length_le->Wzu
open Nat renaming le_refl->WzV,lt_or_ge->WzW,zero_add->Wq7
open Option renaming some->Wq9
namespace Go.Proofs.YtiaaekdpfpaigaaGreatDoor.Df
open Go.Proofs.Tryz
open Go.RowKit Plain
structure New (w w':World) (S:Nat) (L:Loc) (cnt srt:List Nat):Prop where
 s:w'.cell? ⟨L.bs,0,none⟩=some (.pointer (some ⟨S,0,none⟩))
 c:∀ i,i<16->w'.cell? ⟨L.bc,i,none⟩=some (.int .i64 (cnt.getD i 0:Nat))
 d:w'.cell? ⟨L.bd,0,none⟩=some (.slice (some ⟨L.br,0,none⟩) srt.length L.cap)
 r:∀ i,i<srt.length->w'.cell? ⟨L.br,i,none⟩=some (.int .i64 (srt.getD i 0:Nat))
 l1:w.heap.size<=L.bs/\L.bs<w'.heap.size
 l2:w.heap.size<=L.bc/\L.bc<w'.heap.size
 l3:w.heap.size<=L.bd/\L.bd<w'.heap.size
 l4:w.heap.size<=L.br/\L.br<w'.heap.size
theorem New.codeAt {w w':World} {E:Env} {v:Value} {L:Loc} {cnt srt:List Nat} (h:New w w' E.S L cnt srt) (hS:E.S<w.heap.size) (hv:∀ k,v.ownBlock=some k->k<w.heap.size):uz w' E v L cnt srt :=
 have ap:∀ k,w.heap.size<=k->k<w'.heap.size->Apart w' E v k:=fun k h1 h2=>⟨h2,by omega,fun e=>by have:=hv k e.symm;omega⟩
 ⟨h.s,h.c,h.d,h.r,ap _ h.l1.1 h.l1.2,ap _ h.l2.1 h.l2.2,ap _ h.l3.1 h.l3.2,ap _ h.l4.1 h.l4.2⟩
theorem New.mono {w0 w w':World} {S:Nat} {L:Loc} {cnt srt:List Nat} (h:New w w' S L cnt srt) (h0:w0.heap.size<=w.heap.size):New w0 w' S L cnt srt :=
 ⟨h.s,h.c,h.d,h.r,⟨by have:=h.l1.1;omega,h.l1.2⟩,⟨by have:=h.l2.1;omega,h.l2.2⟩,⟨by have:=h.l3.1;omega,h.l3.2⟩,⟨by have:=h.l4.1;omega,h.l4.2⟩⟩
theorem Y2 (S g n cp:Nat) (cnt srt:List Nat) (w0 w:World) (hl:cnt.length=16) (hn:srt.length=n) (hg:w.heap[g]? = some (.cells (arr srt).toArray 3 (0,0))) (hg0:w0.heap.size<=g) (hw:w0.heap.size<=w.heap.size) :
  Calls prog 167 #[.pointer (some ⟨S,0,none⟩),.agg (arr cnt).toArray,.slice (some ⟨g,0,none⟩) n cp] w fun e w'=>∃ L,e=.returned (jj L)/\Below w.heap.size w w'/\New w0 w' S L cnt srt:=by
 have hmf:∀ (fn:Fn) (first cap:Array Value) (w:World),(Instr.makeFunc fn first cap).run prog w=.ok (.func fn first cap) w:=fun _ _ _ _=>rfl;have hgl:g<w.heap.size:=by
  rcases WzW g w.heap.size with h | h
  ·exact h
  rw[Array.getElem?_eq_none h] at hg;cases hg
 have H0:Hid (w.heap[g]? = some (.cells (arr srt).toArray 3 (0,0))):=hg;clear hg;go_enter func167,ntmps167;go_wp2;go_ret;refine⟨⟨w.heap.size,w.heap.size+1,w.heap.size+2,g,cp⟩,rfl,(((Below.refl _ _).alloc (WzV _) _).alloc (by simp) _).alloc (by simp;omega) _,?_⟩
 refine⟨?_,?_,?_,?_,⟨hw,by simp;omega⟩,⟨by simp;omega,by simp⟩,⟨by simp;omega,by simp⟩,⟨hg0,by simp;omega⟩⟩
 ·rw[World.cell?_alloc_lt _ _ ⟨w.heap.size,0,none⟩ (by simp;omega),World.cell?_alloc_lt _ _ ⟨w.heap.size,0,none⟩ (by simp)];simp
 ·intro i hi;rw[World.cell?_alloc_lt _ _ ⟨w.heap.size+1,i,none⟩ (by simp)];exact zy (heap_alloc2_new w _ _) i (by omega)
 ·rw[show ({ bs:=w.heap.size,bc:=w.heap.size+1,bd:=w.heap.size+2,br:=g,cap:=cp } : Loc).bd=w.heap.size+2 from rfl,World.cell?_alloc_at _ _ _ _ (by simp),hn];rfl
 intro i hi;rw[World.cell?_alloc_lt _ _ ⟨g,i,none⟩ (by simp;omega),World.cell?_alloc_lt _ _ ⟨g,i,none⟩ (by simp;omega),World.cell?_alloc_lt _ _ ⟨g,i,none⟩ hgl];exact zy H0.out i hi
theorem y7 {w w':World} {B g:Nat} {cs:List Value} (h:w.rangeAt g 0 cs) (hb:Below B w w') (hg:g<B):w'.rangeAt g 0 cs:=fun j v hv=>(hb.cell (p:=⟨g,0+j,none⟩) hg).trans (h j v hv)
theorem boxed (w1:World) (cs:List Nat) (hl:cs.length=16) :
  ((w1.alloc (.cells #[.int .i64 0,.int .i64 0,.int .i64 0,.int .i64 0,.int .i64 0,.int .i64 0,.int .i64 0,.int .i64 0,.int .i64 0,.int .i64 0,.int .i64 0,.int .i64 0,.int .i64 0,.int .i64 0,.int .i64 0,.int .i64 0] 265)).there w1.heap.size 0 16)/\
  ∀ W,W=(w1.alloc (.cells #[.int .i64 0,.int .i64 0,.int .i64 0,.int .i64 0,.int .i64 0,.int .i64 0,.int .i64 0,.int .i64 0,.int .i64 0,.int .i64 0,.int .i64 0,.int .i64 0,.int .i64 0,.int .i64 0,.int .i64 0,.int .i64 0] 265)).setCells w1.heap.size 0 (arr cs) →
   W.rangeAt w1.heap.size 0 (arr cs)/\Below w1.heap.size w1 W/\W.heap.size=w1.heap.size+1:=by
 have ht:((w1.alloc (.cells (arr (WqV 16 0)).toArray 265)).there w1.heap.size 0 16):=qq (heap_alloc_new w1 _) (by simp);refine⟨ht,?_⟩;rintro W rfl;refine⟨World.rangeAt_setCells_same _ _ _ _ (by rw[qZ,hl];exact ht),below_setCells (WzV _) _ _ _ _ ((Below.refl _ _).alloc (WzV _) _),?_⟩;rw[size_setCells];simp
theorem ZW (S b off cap:Nat) (lens:List Nat) (w:World) (hl:lens.length<=400) (h15:∀ x ∈ lens,x<=15) (hat:AtI w b off lens) (hb:b<w.heap.size) (hwh:yW (z7 lens)=true) :
  Calls prog 153 #[.pointer (some ⟨S,0,none⟩),.slice (some ⟨b,off,none⟩) lens.length cap] w fun e w'=>∃ L,e=.returned (jj L)/\Below w.heap.size w w'/\New w w' S L (z7 lens) (qx lens):=by
 have hlen16:=yv lens;have hle:=j5 lens;have hi2:(prog.info? 265).map (·.size)=some (arr (z7 lens)).length:=by rw[qZ,hlen16];exact info265
 have HC:Hid (∀ i,(z7 lens).getD i 0<=400):=fun i=>by have:=hle i;omega
 clear hle;go_enter func153,ntmps153;go_wp2_with fail
 refine(x7 b off cap lens w hl h15 hat hb).mono ?_;rintro e w1 ⟨rfl,hb1⟩;obtain⟨ht,hW⟩:=boxed w1 (z7 lens) hlen16;go_wp2_with (first | refine wpList_store_mid rfl 265 _ _ rfl w1.heap.size 0 (arr (z7 lens)).toArray rfl rfl ?t1 ?t2 ?t3 ?_ | refine wpList_load_mid rfl 265 _ rfl w1.heap.size 0 rfl (arr (z7 lens)) _ (hW _ rfl).1 underlying265 rfl hi2 ?_)
 case t1=>rw[show (arr (z7 lens)).toArray.size=16 from by rw[WqW,qZ,hlen16]];exact ht
 case t2=>rw[WqW];exact hi2
 case t3=>exact all_oneCell_toArray (vu _)
 refine(Zz (z7 lens) _ hlen16 HC.out).mono ?_;rintro e w2 ⟨rfl,hb2⟩;rw[hwh];obtain⟨hr,hbW,hsW⟩:=hW _ rfl;rw[hsW] at hb2;have hr2:w2.rangeAt w1.heap.size 0 (arr (z7 lens)):=y7 hr hb2 (by omega);have hb02:Below w.heap.size w w2:=hb1.trans ((hbW.mono hb1.size).trans (hb2.mono (by have:=hb1.size;omega)))
 have HLT:Hid (w1.heap.size<w2.heap.size):=by have:=hb2.size;rw[hsW] at this;show _<_;omega
 clear hW hr hbW hsW hb2 ht;have h16:(arr (z7 lens)).length=16:=by rw[qZ,hlen16]
 have h1c:=vu (z7 lens);have hu:=underlying265;have hat2:AtI w2 b off lens:=fun i hi=>(hb02.cell (p:=⟨b,off+i,none⟩) hb).trans (hat i hi);have hbl2:b<w2.heap.size:=by have:=hb02.size;omega
 go_wp2;refine wp_region_held_drew (S:=fun w'=>w'.rangeAt w1.heap.size 0 (arr (z7 lens))) (by kernel_rfl) hr2 (fun hHeld=>?_);refine wpAnyH_take (i:=0) (v:=?_) rfl (by kernel_rfl) (by kernel_rfl) (by kernel_rfl) (fun _ _ _ h=>h) (Or.inl ⟨by rfl,?_⟩) hHeld ?_;rotate_left
 ·intro w hSw;go_simp;rfl
 try simp only[Act.put,sL]
 refine wpAnyH_take (i:=1) rfl (by kernel_rfl) (by kernel_rfl) (by kernel_rfl) (fun _ _ _ h=>h) (yieldsIf_load_mid (by rfl) _ _ rfl w1.heap.size 0 rfl (arr (z7 lens)) _ (fun w h=>h) underlying265 rfl hi2) hHeld ?_;try simp only[Act.put,sL]
 refine wpAnyH_take (i:=2) rfl (by kernel_rfl) (by kernel_rfl) (by kernel_rfl) (fun _ _ _ h=>h) (yieldsIf_load_mid (by rfl) _ _ rfl w1.heap.size 0 rfl (arr (z7 lens)) _ (fun w h=>h) underlying265 rfl hi2) hHeld ?_;try simp only[Act.put,sL]
 refine wpAnyH_take (i:=3) (v:=?_) rfl (by kernel_rfl) (by kernel_rfl) (by kernel_rfl) (fun _ _ _ h=>h) (Or.inl ⟨by rfl,?_⟩) hHeld ?_;rotate_left
 ·intro w hSw;go_simp;rfl
 try simp only[Act.put,sL]
 refine wpAnyH_ready (rs:=[4]) (by kernel_rfl) (by simp) ?_;refine AllReadyH.cons rfl (fun K hK=>?_) AllReadyH.nil;go_simp;refine(Y1 b off cap lens _ hl h15 (by exact hat2) (by exact hbl2)).mono ?_;rintro e w3 ⟨g,hg0,rfl,hb3,hg3⟩;refine hK.out _ _ (y7 hHeld hb3 HLT.out) (fun hHeld3=>?_);clear hK K;try simp only[Act.put,sL]
 refine wpAnyH_ready (rs:=[5]) (by kernel_rfl) (by simp) ?_;refine AllReadyH.cons rfl (fun K hK=>?_) AllReadyH.nil;go_simp;have hs3:=hb3.size;have hs02:=hb02.size;refine(Y2 S g _ _ (z7 lens) (qx lens) w w3 hlen16 rfl hg3 (by simp at hg0;omega) (by simp at hs3;omega)).mono ?_;rintro e w4 ⟨L,rfl,hb4,hn4⟩
 refine hK.out _ _ (y7 hHeld3 hb4 (by have:=HLT.out;simp at hs3;omega)) (fun hHeld4=>?_);clear hK K;try simp only[Act.put,sL]
 have HF:Hid (Below w.heap.size w w4/\New w w4 S L (z7 lens) (qx lens)):=⟨(hb02.trans (Below.mono (show Below w2.heap.size w2 w3 from ⟨hb3.os,hb3.tape,hb3.output,hb3.size,hb3.block⟩) (by omega))).trans (hb4.mono (by simp at hs3;omega)),hn4⟩;refine wpAnyH_ready (rs:=[6]) (by kernel_rfl) (by simp) ?_;refine AllReadyH.cons rfl (fun K hK=>?_) AllReadyH.nil;go_simp
 refine hK.out _ _ hHeld4 (fun hHeld5=>?_);clear hK K;try simp only[Act.put,sL]
 refine wpAnyH_done (by kernel_rfl) ?_ _;clear hHeld hHeld3 hHeld4 hHeld5 hb4 hn4 hb3;go_wp2;go_ret;exact⟨L,rfl,HF.out.1,HF.out.2⟩
theorem Gj (S b off cap:Nat) (lens:List Nat) (w:World) (hl:lens.length<=400) (h15:∀ x ∈ lens,x<=15) (hat:AtI w b off lens) (hb:b<w.heap.size) (hwh:yW (z7 lens)=false) :
  Calls prog 153 #[.pointer (some ⟨S,0,none⟩),.slice (some ⟨b,off,none⟩) lens.length cap] w fun e w'=>e=.panicked (j4 10)/\Below w.heap.size w w':=by
 have hlen16:=yv lens;have hle:=j5 lens;have hi2:(prog.info? 265).map (·.size)=some (arr (z7 lens)).length:=by rw[qZ,hlen16];exact info265
 have HC:Hid (∀ i,(z7 lens).getD i 0<=400):=fun i=>by have:=hle i;omega
 clear hle;go_enter func153,ntmps153;go_wp2_with fail
 refine(x7 b off cap lens w hl h15 hat hb).mono ?_;rintro e w1 ⟨rfl,hb1⟩;obtain⟨ht,hW⟩:=boxed w1 (z7 lens) hlen16;go_wp2_with (first | refine wpList_store_mid rfl 265 _ _ rfl w1.heap.size 0 (arr (z7 lens)).toArray rfl rfl ?t1 ?t2 ?t3 ?_ | refine wpList_load_mid rfl 265 _ rfl w1.heap.size 0 rfl (arr (z7 lens)) _ (hW _ rfl).1 underlying265 rfl hi2 ?_)
 case t1=>rw[show (arr (z7 lens)).toArray.size=16 from by rw[WqW,qZ,hlen16]];exact ht
 case t2=>rw[WqW];exact hi2
 case t3=>exact all_oneCell_toArray (vu _)
 refine(Zz (z7 lens) _ hlen16 HC.out).mono ?_;rintro e w2 ⟨rfl,hb2⟩;rw[hwh];obtain⟨hr,hbW,hsW⟩:=hW _ rfl;rw[hsW] at hb2;have HB:Hid (Below w.heap.size w w2):=hb1.trans ((hbW.mono hb1.size).trans (hb2.mono (by have:=hb1.size;omega)));clear hW hr hbW hsW hb2 ht;go_wp2;exact⟨rfl,rfl,HB.out⟩
theorem Ky (S b off cap:Nat) (lens:List Nat) (w:World) (hl:lens.length<=400) (h15:∀ x ∈ lens,x<=15) (hat:AtI w b off lens) (hb:b<w.heap.size) (hwh:yW (z7 lens)=true) :
  Calls prog 157 #[.pointer (some ⟨S,0,none⟩),.slice (some ⟨b,off,none⟩) lens.length cap] w fun e w'=>∃ L,e=.returned (jj L)/\Below w.heap.size w w'/\New w w' S L (z7 lens) (qx lens):=by
 have hlen16:=yv lens;have hle:=j5 lens;have hi2:(prog.info? 265).map (·.size)=some (arr (z7 lens)).length:=by rw[qZ,hlen16];exact info265
 have HC:Hid (∀ i,(z7 lens).getD i 0<=400):=fun i=>by have:=hle i;omega
 clear hle;go_enter func157,ntmps157;go_wp2_with fail
 refine(x7 b off cap lens w hl h15 hat hb).mono ?_;rintro e w1 ⟨rfl,hb1⟩;obtain⟨ht,hW⟩:=boxed w1 (z7 lens) hlen16;go_wp2_with (first | refine wpList_store_mid rfl 265 _ _ rfl w1.heap.size 0 (arr (z7 lens)).toArray rfl rfl ?t1 ?t2 ?t3 ?_ | refine wpList_load_mid rfl 265 _ rfl w1.heap.size 0 rfl (arr (z7 lens)) _ (hW _ rfl).1 underlying265 rfl hi2 ?_)
 case t1=>rw[show (arr (z7 lens)).toArray.size=16 from by rw[WqW,qZ,hlen16]];exact ht
 case t2=>rw[WqW];exact hi2
 case t3=>exact all_oneCell_toArray (vu _)
 refine(Zz (z7 lens) _ hlen16 HC.out).mono ?_;rintro e w2 ⟨rfl,hb2⟩;rw[hwh];obtain⟨hr,hbW,hsW⟩:=hW _ rfl;rw[hsW] at hb2;have hr2:w2.rangeAt w1.heap.size 0 (arr (z7 lens)):=y7 hr hb2 (by omega);have hb02:Below w.heap.size w w2:=hb1.trans ((hbW.mono hb1.size).trans (hb2.mono (by have:=hb1.size;omega)))
 have HLT:Hid (w1.heap.size<w2.heap.size):=by have:=hb2.size;rw[hsW] at this;show _<_;omega
 clear hW hr hbW hsW hb2 ht;have h16:(arr (z7 lens)).length=16:=by rw[qZ,hlen16]
 have h1c:=vu (z7 lens);have hu:=underlying265;have hat2:AtI w2 b off lens:=fun i hi=>(hb02.cell (p:=⟨b,off+i,none⟩) hb).trans (hat i hi);have hbl2:b<w2.heap.size:=by have:=hb02.size;omega
 go_wp2;refine wp_region_held_drew (S:=fun w'=>w'.rangeAt w1.heap.size 0 (arr (z7 lens))) (by kernel_rfl) hr2 (fun hHeld=>?_);refine wpAnyH_take (i:=0) (v:=?_) rfl (by kernel_rfl) (by kernel_rfl) (by kernel_rfl) (fun _ _ _ h=>h) (Or.inl ⟨by rfl,?_⟩) hHeld ?_;rotate_left
 ·intro w hSw;go_simp;rfl
 try simp only[Act.put,sL]
 refine wpAnyH_take (i:=1) rfl (by kernel_rfl) (by kernel_rfl) (by kernel_rfl) (fun _ _ _ h=>h) (yieldsIf_load_mid (by rfl) _ _ rfl w1.heap.size 0 rfl (arr (z7 lens)) _ (fun w h=>h) underlying265 rfl hi2) hHeld ?_;try simp only[Act.put,sL]
 refine wpAnyH_take (i:=2) rfl (by kernel_rfl) (by kernel_rfl) (by kernel_rfl) (fun _ _ _ h=>h) (yieldsIf_load_mid (by rfl) _ _ rfl w1.heap.size 0 rfl (arr (z7 lens)) _ (fun w h=>h) underlying265 rfl hi2) hHeld ?_;try simp only[Act.put,sL]
 refine wpAnyH_take (i:=3) (v:=?_) rfl (by kernel_rfl) (by kernel_rfl) (by kernel_rfl) (fun _ _ _ h=>h) (Or.inl ⟨by rfl,?_⟩) hHeld ?_;rotate_left
 ·intro w hSw;go_simp;rfl
 try simp only[Act.put,sL]
 refine wpAnyH_ready (rs:=[4]) (by kernel_rfl) (by simp) ?_;refine AllReadyH.cons rfl (fun K hK=>?_) AllReadyH.nil;go_simp;refine(Y1 b off cap lens _ hl h15 (by exact hat2) (by exact hbl2)).mono ?_;rintro e w3 ⟨g,hg0,rfl,hb3,hg3⟩;refine hK.out _ _ (y7 hHeld hb3 HLT.out) (fun hHeld3=>?_);clear hK K;try simp only[Act.put,sL]
 refine wpAnyH_ready (rs:=[5]) (by kernel_rfl) (by simp) ?_;refine AllReadyH.cons rfl (fun K hK=>?_) AllReadyH.nil;go_simp;have hs3:=hb3.size;have hs02:=hb02.size;refine(Y2 S g _ _ (z7 lens) (qx lens) w w3 hlen16 rfl hg3 (by simp at hg0;omega) (by simp at hs3;omega)).mono ?_;rintro e w4 ⟨L,rfl,hb4,hn4⟩
 refine hK.out _ _ (y7 hHeld3 hb4 (by have:=HLT.out;simp at hs3;omega)) (fun hHeld4=>?_);clear hK K;try simp only[Act.put,sL]
 have HF:Hid (Below w.heap.size w w4/\New w w4 S L (z7 lens) (qx lens)):=⟨(hb02.trans (Below.mono (show Below w2.heap.size w2 w3 from ⟨hb3.os,hb3.tape,hb3.output,hb3.size,hb3.block⟩) (by omega))).trans (hb4.mono (by simp at hs3;omega)),hn4⟩;refine wpAnyH_ready (rs:=[6]) (by kernel_rfl) (by simp) ?_;refine AllReadyH.cons rfl (fun K hK=>?_) AllReadyH.nil;go_simp
 refine hK.out _ _ hHeld4 (fun hHeld5=>?_);clear hK K;try simp only[Act.put,sL]
 refine wpAnyH_done (by kernel_rfl) ?_ _;clear hHeld hHeld3 hHeld4 hHeld5 hb4 hn4 hb3;go_wp2;go_ret;exact⟨L,rfl,HF.out.1,HF.out.2⟩
theorem Gk (S b off cap:Nat) (lens:List Nat) (w:World) (hl:lens.length<=400) (h15:∀ x ∈ lens,x<=15) (hat:AtI w b off lens) (hb:b<w.heap.size) (hwh:yW (z7 lens)=false) (hbr:Kv (z7 lens)=true) :
  Calls prog 157 #[.pointer (some ⟨S,0,none⟩),.slice (some ⟨b,off,none⟩) lens.length cap] w fun e w'=>∃ L,e=.returned (jj L)/\Below w.heap.size w w'/\New w w' S L (z7 lens) (qx lens):=by
 have hlen16:=yv lens;have hle:=j5 lens;have hi2:(prog.info? 265).map (·.size)=some (arr (z7 lens)).length:=by rw[qZ,hlen16];exact info265
 have HC:Hid (∀ i,(z7 lens).getD i 0<=400):=fun i=>by have:=hle i;omega
 clear hle;go_enter func157,ntmps157;go_wp2_with fail
 refine(x7 b off cap lens w hl h15 hat hb).mono ?_;rintro e w1 ⟨rfl,hb1⟩;obtain⟨ht,hW⟩:=boxed w1 (z7 lens) hlen16;go_wp2_with (first | refine wpList_store_mid rfl 265 _ _ rfl w1.heap.size 0 (arr (z7 lens)).toArray rfl rfl ?t1 ?t2 ?t3 ?_ | refine wpList_load_mid rfl 265 _ rfl w1.heap.size 0 rfl (arr (z7 lens)) _ (hW _ rfl).1 underlying265 rfl hi2 ?_)
 case t1=>rw[show (arr (z7 lens)).toArray.size=16 from by rw[WqW,qZ,hlen16]];exact ht
 case t2=>rw[WqW];exact hi2
 case t3=>exact all_oneCell_toArray (vu _)
 refine(Zz (z7 lens) _ hlen16 HC.out).mono ?_;rintro e w2a ⟨rfl,hb2a⟩;rw[hwh];obtain⟨hra,hbW,hsW⟩:=hW _ rfl;rw[hsW] at hb2a;have hr2a:w2a.rangeAt w1.heap.size 0 (arr (z7 lens)):=y7 hra hb2a (by omega);have HLTa:Hid (w1.heap.size<w2a.heap.size):=by have:=hb2a.size;rw[hsW] at this;show _<_;omega
 have HBa:Hid (Below w1.heap.size w1 w2a):=hbW.trans (hb2a.mono (by omega));clear hW hra hbW hsW hb2a ht;go_wp2_with (refine BigFrame.wpList_want (by rfl) (fun K hK=>?_);refine wp_load_mid 265 _ rfl w1.heap.size 0 rfl (arr (z7 lens)) _ hr2a underlying265 rfl hi2 ?_;refine hK _ _ ?_;clear hK K)
 refine(PX (z7 lens) _ hlen16 HC.out).mono ?_;rintro e w2 ⟨rfl,hb2⟩;rw[hbr];have hr2:w2.rangeAt w1.heap.size 0 (arr (z7 lens)):=y7 hr2a hb2 HLTa.out;have hb02:Below w.heap.size w w2:=hb1.trans ((HBa.out.mono hb1.size).trans (hb2.mono (by have:=hb1.size;have:=HLTa.out;omega)))
 have HLT:Hid (w1.heap.size<w2.heap.size):=by have:=hb2.size;have:=HLTa.out;show _<_;omega
 clear hr2a hb2;have h16:(arr (z7 lens)).length=16:=by rw[qZ,hlen16]
 have h1c:=vu (z7 lens);have hu:=underlying265;have hat2:AtI w2 b off lens:=fun i hi=>(hb02.cell (p:=⟨b,off+i,none⟩) hb).trans (hat i hi);have hbl2:b<w2.heap.size:=by have:=hb02.size;omega
 go_wp2;refine wp_region_held_drew (S:=fun w'=>w'.rangeAt w1.heap.size 0 (arr (z7 lens))) (by kernel_rfl) hr2 (fun hHeld=>?_);refine wpAnyH_take (i:=0) (v:=?_) rfl (by kernel_rfl) (by kernel_rfl) (by kernel_rfl) (fun _ _ _ h=>h) (Or.inl ⟨by rfl,?_⟩) hHeld ?_;rotate_left
 ·intro w hSw;go_simp;rfl
 try simp only[Act.put,sL]
 refine wpAnyH_take (i:=1) rfl (by kernel_rfl) (by kernel_rfl) (by kernel_rfl) (fun _ _ _ h=>h) (yieldsIf_load_mid (by rfl) _ _ rfl w1.heap.size 0 rfl (arr (z7 lens)) _ (fun w h=>h) underlying265 rfl hi2) hHeld ?_;try simp only[Act.put,sL]
 refine wpAnyH_take (i:=2) rfl (by kernel_rfl) (by kernel_rfl) (by kernel_rfl) (fun _ _ _ h=>h) (yieldsIf_load_mid (by rfl) _ _ rfl w1.heap.size 0 rfl (arr (z7 lens)) _ (fun w h=>h) underlying265 rfl hi2) hHeld ?_;try simp only[Act.put,sL]
 refine wpAnyH_take (i:=3) (v:=?_) rfl (by kernel_rfl) (by kernel_rfl) (by kernel_rfl) (fun _ _ _ h=>h) (Or.inl ⟨by rfl,?_⟩) hHeld ?_;rotate_left
 ·intro w hSw;go_simp;rfl
 try simp only[Act.put,sL]
 refine wpAnyH_ready (rs:=[4]) (by kernel_rfl) (by simp) ?_;refine AllReadyH.cons rfl (fun K hK=>?_) AllReadyH.nil;go_simp;refine(Y1 b off cap lens _ hl h15 (by exact hat2) (by exact hbl2)).mono ?_;rintro e w3 ⟨g,hg0,rfl,hb3,hg3⟩;refine hK.out _ _ (y7 hHeld hb3 HLT.out) (fun hHeld3=>?_);clear hK K;try simp only[Act.put,sL]
 refine wpAnyH_ready (rs:=[5]) (by kernel_rfl) (by simp) ?_;refine AllReadyH.cons rfl (fun K hK=>?_) AllReadyH.nil;go_simp;have hs3:=hb3.size;have hs02:=hb02.size;refine(Y2 S g _ _ (z7 lens) (qx lens) w w3 hlen16 rfl hg3 (by simp at hg0;omega) (by simp at hs3;omega)).mono ?_;rintro e w4 ⟨L,rfl,hb4,hn4⟩
 refine hK.out _ _ (y7 hHeld3 hb4 (by have:=HLT.out;simp at hs3;omega)) (fun hHeld4=>?_);clear hK K;try simp only[Act.put,sL]
 have HF:Hid (Below w.heap.size w w4/\New w w4 S L (z7 lens) (qx lens)):=⟨(hb02.trans (Below.mono (show Below w2.heap.size w2 w3 from ⟨hb3.os,hb3.tape,hb3.output,hb3.size,hb3.block⟩) (by omega))).trans (hb4.mono (by simp at hs3;omega)),hn4⟩;refine wpAnyH_ready (rs:=[6]) (by kernel_rfl) (by simp) ?_;refine AllReadyH.cons rfl (fun K hK=>?_) AllReadyH.nil;go_simp
 refine hK.out _ _ hHeld4 (fun hHeld5=>?_);clear hK K;try simp only[Act.put,sL]
 refine wpAnyH_done (by kernel_rfl) ?_ _;clear hHeld hHeld3 hHeld4 hHeld5 hb4 hn4 hb3;go_wp2;go_ret;exact⟨L,rfl,HF.out.1,HF.out.2⟩
theorem TY (S b off cap:Nat) (lens:List Nat) (w:World) (hl:lens.length<=400) (h15:∀ x ∈ lens,x<=15) (hat:AtI w b off lens) (hb:b<w.heap.size) (hwh:yW (z7 lens)=false) (hbr:Kv (z7 lens)=false) :
  Calls prog 157 #[.pointer (some ⟨S,0,none⟩),.slice (some ⟨b,off,none⟩) lens.length cap] w fun e w'=>e=.panicked (j4 10)/\Below w.heap.size w w':=by
 have hlen16:=yv lens;have hle:=j5 lens;have hi2:(prog.info? 265).map (·.size)=some (arr (z7 lens)).length:=by rw[qZ,hlen16];exact info265
 have HC:Hid (∀ i,(z7 lens).getD i 0<=400):=fun i=>by have:=hle i;omega
 clear hle;go_enter func157,ntmps157;go_wp2_with fail
 refine(x7 b off cap lens w hl h15 hat hb).mono ?_;rintro e w1 ⟨rfl,hb1⟩;obtain⟨ht,hW⟩:=boxed w1 (z7 lens) hlen16;go_wp2_with (first | refine wpList_store_mid rfl 265 _ _ rfl w1.heap.size 0 (arr (z7 lens)).toArray rfl rfl ?t1 ?t2 ?t3 ?_ | refine wpList_load_mid rfl 265 _ rfl w1.heap.size 0 rfl (arr (z7 lens)) _ (hW _ rfl).1 underlying265 rfl hi2 ?_)
 case t1=>rw[show (arr (z7 lens)).toArray.size=16 from by rw[WqW,qZ,hlen16]];exact ht
 case t2=>rw[WqW];exact hi2
 case t3=>exact all_oneCell_toArray (vu _)
 refine(Zz (z7 lens) _ hlen16 HC.out).mono ?_;rintro e w2a ⟨rfl,hb2a⟩;rw[hwh];obtain⟨hra,hbW,hsW⟩:=hW _ rfl;rw[hsW] at hb2a;have hr2a:w2a.rangeAt w1.heap.size 0 (arr (z7 lens)):=y7 hra hb2a (by omega);have HLTa:Hid (w1.heap.size<w2a.heap.size):=by have:=hb2a.size;rw[hsW] at this;show _<_;omega
 have HBa:Hid (Below w1.heap.size w1 w2a):=hbW.trans (hb2a.mono (by omega));clear hW hra hbW hsW hb2a ht;go_wp2_with (refine BigFrame.wpList_want (by rfl) (fun K hK=>?_);refine wp_load_mid 265 _ rfl w1.heap.size 0 rfl (arr (z7 lens)) _ hr2a underlying265 rfl hi2 ?_;refine hK _ _ ?_;clear hK K)
 refine(PX (z7 lens) _ hlen16 HC.out).mono ?_;rintro e w2 ⟨rfl,hb2⟩;rw[hbr];have hr2:w2.rangeAt w1.heap.size 0 (arr (z7 lens)):=y7 hr2a hb2 HLTa.out;have hb02:Below w.heap.size w w2:=hb1.trans ((HBa.out.mono hb1.size).trans (hb2.mono (by have:=hb1.size;have:=HLTa.out;omega)))
 have HLT:Hid (w1.heap.size<w2.heap.size):=by have:=hb2.size;have:=HLTa.out;show _<_;omega
 have HF:Hid (Below w.heap.size w w2):=hb02;clear hr2a hb2 hr2 hb02;go_wp2;exact⟨rfl,rfl,HF.out⟩
theorem zj4 (n:Nat) (h:n<=400):bits .and .u64 (n:Int) 4294967295=(n:Int):=by
 rw[show (4294967295:Int)=((4294967295:Nat):Int) from rfl,u64_and_nat n 4294967295 (by omega) (by omega),show (4294967295:Nat)=2 ^ 32-1 from rfl,Nat.and_two_pow_sub_one_eq_mod,Nat.mod_eq_of_lt (by omega)]
theorem O3 (n:Nat) (w:World) (h:n<=400) :
  Calls prog 176 #[.int .u64 1,.int .u64 n] w fun e w'=>e=.returned (.tuple #[.int .u64 0,.int .u64 n])/\w'=w:=by
 have a1:bits .and .u64 1 4294967295=1:=by decide
 have a0:bits .and .u64 0 4294967295=0:=by decide
 have an:=zj4 n h;have hd:(n:Int) / 4294967296=0:=by omega
 go_enter func176,ntmps176;go_wp2;go_ret2;exact⟨rfl,rfl⟩
theorem mul_one (n:Nat) (w:World) (h:n<=400) :
  Calls prog 169 #[.int .u64 1,.int .u64 n] w fun e w'=>e=.returned (.tuple #[.int .u64 0,.int .u64 n])/\w=w':=by
 go_enter func169,ntmps169;go_wp2_with (go_at_call 176;refine(O3 n _ h).mono ?_;rintro e w' ⟨rfl,rfl⟩)
 go_ret2;exact⟨rfl,rfl⟩
def fill (n k x:Nat):List Nat:=WqV k x++WqV (n-k) 0
theorem PV (n k x:Nat) (h:k<=n):(fill n k x).length=n:=by simp[fill];omega
theorem zqk (n k x i:Nat) (h:i<k):(fill n k x).getD i 0=x:=by
 unfold fill;rw[List.getD_eq_getElem?_getD,List.getElem?_append_left (by simpa using h),List.getElem?_replicate,if_pos h];rfl
theorem Nj (n k m x:Nat) (h:k+m<=n):splice (arr (fill n k x)) k (arr (WqV m x))=arr (fill n (k+m) x):=by
 have e:∀ a b c:Nat,b+c=n-k->splice (arr (fill n k x)) k (arr (WqV b x))=arr (WqV k x++(WqV b x++WqV c 0)):=by
  intro a b c hbc;unfold splice fill arr;rw[<-List.map_take,<-List.map_drop,<-Wy4,<-Wy4];congr 1;rw[List.take_left' (by simp),List.length_map,Wy3,List.drop_append,List.drop_eq_nil_of_le (by simp)];simp;omega
 rw[e 0 m (n-k-m) (by omega)];unfold fill;rw[<-List.append_assoc,List.replicate_append_replicate,show n-k-m=n-(k+m) from by omega]
theorem O4 (n x:Nat):fill n n x=WqV n x:=by simp[fill]
theorem size3:(prog.info? 3).map (·.size)=some 1:=by kernel_rfl
theorem UQ (b n x:Nat) (w:World) (hn:n<=400) (hn1:1<=n) (hb:b<w.heap.size) (hc:w.cell? ⟨b,0,none⟩=some (.int .i64 (x:Int))) :
  Calls prog 154 #[.slice (some ⟨b,0,none⟩) 1 1,.int .i64 n] w fun e w'=>∃ g,w.heap.size<=g/\e=.returned (.slice (some ⟨g,0,none⟩) n n)/\Below w.heap.size w w'/\w'.heap[g]? = some (.cells (arr (WqV n x)).toArray 3 (0,0)):=by
 obtain⟨i3,hi,hz0,hz1,hz2⟩:=info_parts info3;have hwn:IntKind.u64.wrap (n:Int)=(n:Int):=by rw[IntKind.wrap_u64];omega
 go_enter func154,ntmps154;go_wp2_with (first | (go_at_call 169;refine(mul_one n _ hn).mono ?_;rintro e w' ⟨rfl,rfl⟩) | (at_make;refine wpList_make_full _ rfl _ _ 23 rfl w.heap.size 3 i3 (.int .i64 0) 1 underlying23 hi hz0 hz1 _ _ _ _ n rfl rfl ?c1 ?c2 ?c3 ?c4 ?c5 ?_))
 case c1=>omega
 case c2=>omega
 case c3=>rw[hz2];omega
 case c4=>unfold maxLen;omega
 case c5=>exact WzV _
 intro w2 hown hgrow;have HB2:Hid (Below w.heap.size w w2):=(Below.refl _ _).grown hgrow (WzV _) (fun k h=>by cases h);have HH:Hid (w2.heap[w.heap.size]? = some (.cells (arr (WqV n 0)).toArray 3 (0,0))):=by
  show _=_;obtain⟨_,⟨h,_⟩ | ⟨g,cap',cur,hv,_,hg,_,_,hsz,htk⟩⟩:=hown
  ·cases h
  simp only[Value.slice.injEq,Wq9.injEq,Addr.mk.injEq] at hv;obtain⟨⟨rfl,_,_⟩,_,rfl⟩:=hv;rw[hg];have e:cur.toList=arr (WqV n 0):=by
   rw[Wzu (by simp;omega)] at htk;rw[htk,toList_madeCells_one];simp[arr]
  have:cur=(arr (WqV n 0)).toArray:=by rw[<-e]
  rw[this]
 have hcp:=run_copy_row (P:=prog) w2 23 23 3 3 w.heap.size 0 n n ⟨b,0,none⟩ 1 1 _ 3 (arr (WqV 1 x)) underlying23 size3 HH.out (by rw[qZ,Wy3];exact(Nat.min_eq_left hn1).symm)
  (by
   intro j v hj
   match j,hj with
   | 0,hj=>simp[arr] at hj;subst hj;rw[addr_add];exact(HB2.out.cell (p:=⟨b,0+0,none⟩) hb).trans hc) (by simp[arr];omega) (vu _)
 have hst:w2.setRow w.heap.size ((arr (WqV n 0)).toArray.toList.take 0++arr (WqV 1 x)++(arr (WqV n 0)).toArray.toList.drop (0+(arr (WqV 1 x)).length)).toArray=w2.setRow w.heap.size (arr (fill n 1 x)).toArray:=by
  have:=Nj n 0 1 x (by omega);rw[<-this];unfold splice fill;simp
 rw[hst] at hcp;have H3:Hid ((w2.setRow w.heap.size (arr (fill n 1 x)).toArray).heap[w.heap.size]? = some (.cells (arr (fill n 1 x)).toArray 3 (0,0))):=setRow_heap w2 _ _ _ 3 _ HH.out;have HB3:Hid (Below w.heap.size w (w2.setRow w.heap.size (arr (fill n 1 x)).toArray)):=below_setRow HB2.out (WzV _) _;obtain⟨w3,HW3⟩:=nn_ (w2.setRow w.heap.size (arr (fill n 1 x)).toArray)
 rw[<-HW3.out] at hcp H3 HB3;have hg1:goInt ((arr (WqV 1 x)).length:Nat)=.int .i64 1:=by simp[arr,goInt]
 rw[hg1] at hcp;clear hst HH HB2 hown hgrow hg1;go_wp2;go_loopw [8] (fun i wr=>∃ k:Nat,1<=k/\k<=n/\i=.int .i64 k/\Hid (wr.heap[w.heap.size]? = some (.cells (arr (fill n k x)).toArray 3 (0,0)))/\Hid (Below w.heap.size w wr)) (fun i _=>n-(intOf i).toNat)
 case atStart=>exact⟨1,by omega,hn1,rfl,H3,HB3⟩
 case round =>
 obtain⟨k,hk1,hk2,rfl,H,HB⟩:=hrel;clear hcp H3 HB3 HW3;by_cases hlt:k<n;rotate_left
 ·obtain rfl:k=n:=by omega
  go_wp2;go_ret;exact⟨w.heap.size,WzV _,rfl,HB.out,by rw[H.out,O4]⟩
 obtain⟨m,HM⟩:=nn_ (Nat.min k (n-k));have hm1:m<=k/\m<=n-k/\1<=m:=by rw[HM.out,show Nat.min k (n-k)=min k (n-k) from rfl];omega
 have hsrc:∀ j v,(arr (WqV m x))[j]? = some v->wr.cell? ((⟨w.heap.size,0,none⟩:Addr).add j)=some v:=by
  intro j v hj;rw[addr_add,Wq7];by_cases hjm:j<m
  ·have:=zy H.out j (by rw[PV _ _ _ hk2];omega);rw[this,zqk n k x j (by omega)];rw[TW _ j (by simpa using hjm)] at hj;simpa [hjm] using hj
  rw[List.getElem?_eq_none (by rw[qZ];simp;omega)] at hj;cases hj
 have hkn:(k:Int)<n:=by omega
 have hnk:¬ n=k:=by omega
 have hcp:=run_copy_row (P:=prog) wr.drew 23 23 3 3 w.heap.size k (n-k) (n-k) ⟨w.heap.size,0,none⟩ k n _ 3 (arr (WqV m x)) underlying23 size3 H.out (by rw[qZ,Wy3];exact HM.out) hsrc
  (by rw[qZ,Wy3,WqW,qZ,PV _ _ _ hk2];omega) (vu _)
 have hst:(wr.drew).setRow w.heap.size ((arr (fill n k x)).toArray.toList.take k++arr (WqV m x)++(arr (fill n k x)).toArray.toList.drop (k+(arr (WqV m x)).length)).toArray=(wr.drew).setRow w.heap.size (arr (fill n (k+m) x)).toArray:=by
  rw[<-Nj n k m x (by omega)];unfold splice;simp
 rw[hst,qZ,Wy3] at hcp;have H4:Hid (((wr.drew).setRow w.heap.size (arr (fill n (k+m) x)).toArray).heap[w.heap.size]? = some (.cells (arr (fill n (k+m) x)).toArray 3 (0,0))):=setRow_heap wr.drew _ _ _ 3 _ H.out;have HB4:Hid (Below w.heap.size w ((wr.drew).setRow w.heap.size (arr (fill n (k+m) x)).toArray)):=below_setRow HB.out.drew (WzV _) _
 obtain⟨w4,HW4⟩:=nn_ ((wr.drew).setRow w.heap.size (arr (fill n (k+m) x)).toArray);rw[<-HW4.out] at hcp H4 HB4;have hgm:goInt ((m:Nat):Int)=.int .i64 (m:Int):=rfl;rw[hgm] at hcp;clear hst hgm hsrc;go_wp2;go_region;all_goals
  go_wp2;go_roundw;case rel=>exact⟨k+m,by omega,by omega,by go_num,H4,HB4⟩
  case measure=>simp[intOf];omega
def Y3 (s:Nat):Nat:=if s<144 then 48+s else if s<256 then 400+s-144 else if s<280 then s-256 else 192+s-280
def y9 (s:Nat):Nat:=if s<144 then 8 else if s<256 then 9 else if s<280 then 7 else 8
theorem Xj (s:Nat) (w:World) (h:s<288) :
  Calls prog 56 #[.int .i64 s] w fun e w'=>e=.returned (.tuple #[.int .i64 (Y3 s:Nat),.int .i64 (y9 s:Nat)])/\w=w':=by
 have H1:Hid (Y3 s=if s<144 then 48+s else if s<256 then 400+s-144 else if s<280 then s-256 else 192+s-280):=rfl;have H2:Hid (y9 s=if s<144 then 8 else if s<256 then 9 else if s<280 then 7 else 8):=rfl;by_cases h1:s<144
 ·have h1':(s:Int)<144:=by omega
  go_enter func56,ntmps56;go_wp2;go_ret2;exact⟨by rw[H1.out,H2.out,if_pos h1,if_pos h1];simp,rfl⟩
 have h1':¬ (s:Int)<144:=by omega
 by_cases h2:s<256
 ·have h2':(s:Int)<256:=by omega
  go_enter func56,ntmps56;go_wp2;go_ret2;exact⟨by rw[H1.out,H2.out,if_neg h1,if_neg h1,if_pos h2,if_pos h2];simp;omega,rfl⟩
 have h2':¬ (s:Int)<256:=by omega
 by_cases h3:s<280
 ·have h3':(s:Int)<280:=by omega
  go_enter func56,ntmps56;go_wp2;go_ret2;exact⟨by rw[H1.out,H2.out,if_neg h1,if_neg h1,if_neg h2,if_neg h2,if_pos h3,if_pos h3];simp;omega,rfl⟩
 have h3':¬ (s:Int)<280:=by omega
 go_enter func56,ntmps56;go_wp2;go_ret2;exact⟨by rw[H1.out,H2.out,if_neg h1,if_neg h1,if_neg h2,if_neg h2,if_neg h3,if_neg h3];simp;omega,rfl⟩
theorem New.later {w w' w'':World} {S:Nat} {L:Loc} {cnt srt:List Nat} (h:New w w' S L cnt srt) (hb:Below w'.heap.size w' w'') (h0:w.heap.size<=w'.heap.size):New w w'' S L cnt srt where
 s:=(hb.cell (p:=⟨L.bs,0,none⟩) h.l1.2).trans h.s
 c i hi:=(hb.cell (p:=⟨L.bc,i,none⟩) h.l2.2).trans (h.c i hi)
 d:=(hb.cell (p:=⟨L.bd,0,none⟩) h.l3.2).trans h.d
 r i hi:=(hb.cell (p:=⟨L.br,i,none⟩) h.l4.2).trans (h.r i hi)
 l1:=⟨h.l1.1,by have:=h.l1.2;have:=hb.size;omega⟩
 l2:=⟨h.l2.1,by have:=h.l2.2;have:=hb.size;omega⟩
 l3:=⟨h.l3.1,by have:=h.l3.2;have:=hb.size;omega⟩
 l4:=⟨h.l4.1,by have:=h.l4.2;have:=hb.size;omega⟩
def qy:List Nat:=(List.range 288).map y9
def yq:List Nat:=WqV 32 5
def kX (k:Nat):List Nat:=(List.range 288).map fun i=>if i<k then y9 i else 0
theorem U4 (k:Nat):(kX k).length=288:=by simp[kX]
theorem Bz:kX 0=WqV 288 0:=by
 apply Wy0
 ·rw[U4,Wy3]
 intro i h1 h2;simp only[kX,Wy1,Wy2,List.getElem_replicate];rw[if_neg (by omega)]
theorem Ku {w2:World} {B g n:Nat} (h:w2.ownsRow B 3 1 (.slice (some ⟨g,0,none⟩) n n) n (madeCells #[.int .i64 0] n).toList):w2.heap[g]? = some (.cells (arr (WqV n 0)).toArray 3 (0,0)):=by
 obtain⟨_,⟨h,_⟩ | ⟨g',cap',cur,hv,_,hg,_,_,hsz,htk⟩⟩:=h
 ·cases h
 simp only[Value.slice.injEq,Wq9.injEq,Addr.mk.injEq] at hv;obtain⟨⟨rfl,_,_⟩,_,rfl⟩:=hv;rw[hg];have e:cur.toList=arr (WqV n 0):=by
  rw[Wzu (by simp;omega)] at htk;rw[htk,toList_madeCells_one];simp[arr]
 have:cur=(arr (WqV n 0)).toArray:=by rw[<-e]
 rw[this]
theorem Bj (k:Nat):(kX k).set k (y9 k)=kX (k+1):=by
 apply Wy0
 ·simp[kX]
 intro i h1 h2;rw[List.getElem_set];simp only[kX,Wy1,Wy2];by_cases e:k=i
 ·subst e;simp
 rw[if_neg e];by_cases h:i<k
 ·rw[if_pos h,if_pos (by omega)]
 rw[if_neg h,if_neg (by omega)]
theorem O5:kX 288=qy:=by
 apply Wy0
 ·simp[kX,qy]
 intro i h1 h2;simp only[U4] at h1;simp[kX,qy,h1]
theorem O6:yW (z7 qy)=true:=by decide +kernel
theorem Bk:yW (z7 yq)=true:=by decide +kernel
theorem qy9:∀ x ∈ qy,x<=15:=by decide +kernel
theorem zj5:∀ x ∈ yq,x<=15:=by decide +kernel
theorem KZ (S:Nat) (w:World) :
  Calls prog 139 #[.pointer (some ⟨S,0,none⟩)] w fun e w'=>∃ L M,e=.returned (.tuple #[jj L,jj M])/\Below w.heap.size w w'/\New w w' S L (z7 qy) (qx qy)/\New w w' S M (z7 yq) (qx yq):=by
 obtain⟨i3,hi,hz0,hz1,hz2⟩:=info_parts info3;go_enter func139,ntmps139;go_wp2_with (at_make;refine wpList_make_full _ rfl _ _ 23 rfl w.heap.size 3 i3 (.int .i64 0) 1 underlying23 hi hz0 hz1 _ _ _ _ 288 rfl rfl ?c1 ?c2 ?c3 ?c4 ?c5 ?_)
 case c1=>rfl
 case c2=>rfl
 case c3=>rw[hz2];omega
 case c4=>unfold maxLen;omega
 case c5=>exact WzV _
 intro w2 hown hgrow;have HB2:Hid (Below w.heap.size w w2):=(Below.refl _ _).grown hgrow (WzV _) (fun k h=>by cases h);have HH:Hid (w2.heap[w.heap.size]? = some (.cells (arr (kX 0)).toArray 3 (0,0))):=by rw[Bz];exact Ku hown
 clear hown hgrow;go_wp2;go_loopw [9] (fun i wr=>∃ k:Nat,k<=288/\i=.int .i64 k/\Hid (wr.heap[w.heap.size]? = some (.cells (arr (kX k)).toArray 3 (0,0)))/\Hid (Below w.heap.size w wr)) (fun i _=>288-(intOf i).toNat)
 case atStart=>exact⟨0,by omega,rfl,HH,HB2⟩
 case round =>
 obtain⟨k,hk,rfl,H,HB⟩:=hrel;clear HH HB2;by_cases hlt:k<288
 ·have hltZ:(k:Int)<288:=by omega
  have hc:=zy H.out k (by rw[U4];exact hlt);have hf:=frozen_of_row wr w.heap.size k _ 3 H.out;obtain⟨z,HZ⟩:=nn_ ((kX k).getD k 0);rw[<-HZ.out] at hc;go_wp2_with (go_at_call 56;refine(Xj k _ hlt).mono ?_;rintro e w' ⟨rfl,rfl⟩)
  go_roundw;case rel=>exact⟨k+1,by omega,by go_num,by show _=_;rw[heap_setCell_same wr _ _ _ _ _ H.out,<-Bj,<-jy],HB.out.setCell (WzV _) _⟩
  case measure=>simp[intOf];omega
 obtain rfl:k=288:=by omega
 rw[O5] at H;have hlen:qy.length=288:=by simp[qy]
 have hat:AtI wr w.heap.size 0 qy:=fun i hi=>by rw[Wq7];exact zy H.out i hi
 have HLT:Hid (w.heap.size<wr.heap.size):=by
  rcases WzW w.heap.size wr.heap.size with h | h
  ·exact h
  have:=H.out;rw[Array.getElem?_eq_none h] at this;cases this
 go_wp2_with fail
 rw[<-hlen];refine(ZW S w.heap.size 0 288 qy wr (by omega) qy9 hat HLT.out O6).mono ?_;rintro e w3 ⟨L,rfl,hb3,hL⟩;go_wp2_with fail
 refine(UQ w3.heap.size 32 5 (w3.alloc (.cells #[.int .i64 5] 3)) (by omega) (by omega) (by simp) (by simp)).mono ?_;rintro e w4 ⟨g,hg0,rfl,hb4,hg4⟩;have hat4:AtI w4 g 0 yq:=fun i hi=>by rw[Wq7];exact zy hg4 i hi
 have hl4:g<w4.heap.size:=by
  rcases WzW g w4.heap.size with h | h
  ·exact h
  rw[Array.getElem?_eq_none h] at hg4;cases hg4
 have hb34:Below w3.heap.size w3 w4:=((Below.refl _ _).alloc (WzV _) _).trans (hb4.mono (by simp));have hlD:yq.length=32:=rfl;go_wp2_with fail
 rw[<-hlD];refine(ZW S g 0 32 yq w4 (by omega) zj5 hat4 hl4 Bk).mono ?_;rintro e w5 ⟨M,rfl,hb5,hM⟩;have HF:Hid (Below w.heap.size w w5/\New w w5 S L (z7 qy) (qx qy)/\New w w5 S M (z7 yq) (qx yq)):=by
  have s1:=HB.out.size;have s2:=hb3.size;have s3:=hb34.size;refine⟨((HB.out.trans (hb3.mono s1)).trans (hb34.mono (by omega))).trans (hb5.mono (by omega)),(hL.mono s1).later (hb34.trans (hb5.mono s3)) (by have:=HB.out.size;omega),hM.mono (by omega)⟩
 clear hb3 hb4 hb5 hL hM hat4 hg4 hb34;go_wp2;go_ret2;exact⟨L,M,rfl,HF.out.1,HF.out.2.1,HF.out.2.2⟩
theorem Bv {P:Program} {md:Region.Mode} {l0:List Oper} {Q:Exit->Act->World->Prop} (k:Nat) {fuel:Nat} {listed:Array Bool} {a:Act} {w:World} (hs:Region.noSelect l0.toArray=true) (hk:(l0.drop k).length=fuel)
  (hB:Region.lexFrom md l0.toArray fuel k listed=true) (h:wpStill P l0.toArray w (fun a'=>Q .normal a' w) (l0.drop k) a):wpAny P md l0.toArray Q fuel listed a w:=by
 subst hk;exact wpAny_of_still (fun _ h=>h) _ _ _ (wpAnyS_lex hs (l0.drop k) k listed a (fun j=>by simp) hB h)
theorem PW {P:Program} {md:Region.Mode} {l0:List Oper} {Q:Exit->Act->World->Prop} (k j d:Nat) {fuel:Nat} {listed:Array Bool} {a:Act} {w:World} (hs:Region.noSelect l0.toArray=true) (hk:(l0.drop k).length=fuel)
  (hB:Region.lexFrom md l0.toArray fuel k listed=true) (hd:(l0.toArray[j]?).bind (·.dst)=some d) (h:∀ ops:Array Oper,(ops[j]?).bind (·.dst)=some d->wpStill P ops w (fun a'=>Q .normal a' w) (l0.drop k) a):wpAny P md l0.toArray Q fuel listed a w :=
 Bv k hs hk hB (h _ hd)
theorem x6 {P:Program} {id:Nat} {Q:Exit->Act->World->Prop} {a:Act} {w:World} {l:List Oper} (n:Nat) (hm:P.follows .mixedOrders=true) (hB:Region.lexTailB .any l.toArray n=true)
  (h:wpStill P l.toArray w.drew (fun a'=>wpList P l.toArray Q (l.drop n) a' w.drew) (l.take n) a):(Code.region id l.toArray true).wp P Q a w:=wp_region_still_tail n hm hB h
theorem yK {P:Program} {ops:Array Oper} {w:World} {Q:Act->Prop} {a:Act} {o:Oper} {rest:List Oper} (hg:o.guard=none) (h:∀ K:Act->Prop,(∀ a,wpStill P ops w Q rest a->K a)->o.still P a w K):wpStill P ops w Q (o :: rest) a:=by
 unfold wpStill;rw[if_pos (by simp[Region.wanted,hg])];exact h _ (fun _ h=>h)
theorem R0 {P:Program} {ops:Array Oper} {w:World} {Q:Act->Prop} {a:Act} {o:Oper} {rest:List Oper} {j d:Nat} {b:Bool} (hd:(ops[j]?).bind (·.dst)=some d) (hg:o.guard=some (j,b)) (ht:a.tmps[d]? = some (.bool (!b))) (h:wpStill P ops w Q rest (a.put o.dst undef)):wpStill P ops w Q (o :: rest) a:=by
 have hw:Region.wanted o (yielded ops a.tmps)=false:=by simp[Region.wanted,hg,yielded,hd,ht]
 unfold wpStill;rw[hw];exact h
theorem R3 {P:Program} {ops:Array Oper} {w:World} {Q:Act->Prop} {a:Act} {o:Oper} {rest:List Oper} {j d:Nat} {b:Bool} (hd:(ops[j]?).bind (·.dst)=some d) (hg:o.guard=some (j,b)) (ht:a.tmps[d]? = some (.bool b)) (h:∀ K:Act->Prop,(∀ a,wpStill P ops w Q rest a->K a)->o.still P a w K):wpStill P ops w Q (o :: rest) a:=by
 have hw:Region.wanted o (yielded ops a.tmps)=true:=by simp[Region.wanted,hg,yielded,hd,ht]
 unfold wpStill;rw[if_pos hw];exact h _ (fun _ h=>h)
theorem Y4 {P:Program} (w:World) {ops:Array Oper} {o:Oper} {a:Act} {K:Act->World->Prop} {Q:Exit->Act->World->Prop} {E:Prop} (hgd:o.guard=none) (s x:Operand) (t:TypeId)
  (ho:o.op=.call { callee:=.builtin .append,args:=#[s,x],argTypes:=#[t,t] })
  (base:Nat) (e:TypeId) (i:TypeInfo) (z:Value) (size bytes:Nat) (ht:P.underlying t=some (.slice e)) (hi:P.info? e=some i) (hz:i.zero=some z)
  (hsize:i.size=size) (hby:i.bytes=bytes) (hzs:z.cells.size=size) (hsz:0<size)
  (v:Value) (n:Nat) (xs:List Value) (hs:a.eval s=v) (hown:w.ownsRow base e size v n xs)
  (ad:Addr) (m c:Nat) (news:List Value) (hx:a.eval x=.slice (some ad) m c) (hl:news.length=m*size) (hnews:∀ j u,news[j]? = some u->w.cell? (ad.add j)=some u) (h1:∀ u ∈ news,u.oneCell'=true)
  (h63:n+m<=maxLen) (hbytes:(n+m)*bytes<=140737488355328) (hbase:base<=w.heap.size) (H:Nat) (hH:w.heap.size=H)
  (h:∀ (ao:Option Addr) (cap:Nat) (w':World),w'.ownsRow base e size (.slice ao (n+m:Nat) cap) (n+m) (xs++news)->w.grownBy w' v.ownBlock->((Value.slice ao (n+m:Nat) cap).ownBlock=v.ownBlock ∨ (Value.slice ao (n+m:Nat) cap).ownBlock=some H)->K (a.put o.dst (.slice ao (n+m:Nat) cap)) w') :
  if Region.wanted o (yielded ops a.tmps)=true then Oper.wp P o a w K Q else E:=by
 have hw:Region.wanted o (yielded ops a.tmps)=true:=by simp[Region.wanted,hgd]
 rw[if_pos hw];obtain⟨v',w',hr,h2,h3,_,h5⟩:=run_append_own_at (P:=P) w base t o.type e i z size bytes ht hi hz hsize hby hzs hsz v n xs hown ad m c news hl hnews h1 h63 hbytes hbase;obtain⟨ao,cap,rfl⟩:=zW h2;unfold Oper.wp execOp;simp only[ho,resolve,invoke,builtin,Sem.run_bind,Sem.run_pure,Result.andThen_ok,List.map_toArray,List.map_cons,List.map_nil,hs,hx,hr]
 exact h ao cap w' h2 h3 (hH ▸ h5)
theorem qJ {P:Program} (w:World) {ops:Array Oper} {rest:List Oper} {o:Oper} {a:Act} {Q:Exit->Act->World->Prop} (hgd:o.guard=none) (s x:Operand) (t:TypeId)
  (ho:o.op=.call { callee:=.builtin .append,args:=#[s,x],argTypes:=#[t,t] })
  (base:Nat) (e:TypeId) (i:TypeInfo) (z:Value) (size bytes:Nat) (ht:P.underlying t=some (.slice e)) (hi:P.info? e=some i) (hz:i.zero=some z)
  (hsize:i.size=size) (hby:i.bytes=bytes) (hzs:z.cells.size=size) (hsz:0<size)
  (v:Value) (n:Nat) (xs:List Value) (hs:a.eval s=v) (hown:w.ownsRow base e size v n xs)
  (ad:Addr) (m c:Nat) (news:List Value) (hx:a.eval x=.slice (some ad) m c) (hl:news.length=m*size) (hnews:∀ j u,news[j]? = some u->w.cell? (ad.add j)=some u) (h1:∀ u ∈ news,u.oneCell'=true)
  (h63:n+m<=maxLen) (hbytes:(n+m)*bytes<=140737488355328) (hbase:base<=w.heap.size) (H:Nat) (hH:w.heap.size=H)
  (h:∀ (ao:Option Addr) (cap:Nat) (w':World),w'.ownsRow base e size (.slice ao (n+m:Nat) cap) (n+m) (xs++news)->w.grownBy w' v.ownBlock->((Value.slice ao (n+m:Nat) cap).ownBlock=v.ownBlock ∨ (Value.slice ao (n+m:Nat) cap).ownBlock=some H)->wpList P ops Q rest (a.put o.dst (.slice ao (n+m:Nat) cap)) w') :
  wpList P ops Q (o :: rest) a w :=
 wpList_plain hgd fun K hK=>by
 have:=Y4 (P:=P) w (ops:=ops) (o:=o) (a:=a) (K:=K) (Q:=Q) (E:=False) hgd s x t ho base e i z size bytes ht hi hz hsize hby hzs hsz v n xs hs hown ad m c news hx hl hnews h1 h63 hbytes hbase H hH (fun ao cap w' h2 h3 h4=>hK _ _ (h ao cap w' h2 h3 h4));rwa [if_pos (by simp[Region.wanted,hgd])] at this
theorem Str.grow2 {w wx w3:World} {E:Env} {nx hold held:Nat} {v:Value} (h:Str w E nx hold held v) (hx:w.grownBy wx none) (hg:wx.grownBy w3 v.ownBlock) (vn:Value)
  (hat:vn.ownBlock=v.ownBlock ∨ vn.ownBlock=some wx.heap.size):Str (w3.setCell ⟨E.S,4,none⟩ vn) E nx hold held vn/\Kept E.S v vn w (w3.setCell ⟨E.S,4,none⟩ vn):=by
 have hs1:=hx.size;have hs2:=hg.size;have hS:=h.Sl;have hI:=h.ibl;have blk:∀ k,k<w.heap.size->some k ≠ v.ownBlock->w3.heap[k]? = w.heap[k]? := fun k hk hne =>
  (hg.block k (by omega) hne).trans (hx.block k hk (by simp))
 have cellS:∀ i,w3.cell? ⟨E.S,i,none⟩=w.cell? ⟨E.S,i,none⟩:=fun i=>World.cell?_of_block (a:=⟨E.S,i,none⟩) (blk E.S hS h.Sv);have frS:∀ i,w3.frozen? ⟨E.S,i,none⟩=w.frozen? ⟨E.S,i,none⟩:=fun i=>World.frozen?_of_block (a:=⟨E.S,i,none⟩) (blk E.S hS h.Sv);have offn:∀ k,k<w.heap.size->some k ≠ v.ownBlock->some k ≠ vn.ownBlock:=fun k hk hne e=>by
  rcases hat with e' | e'
  ·exact hne (e.trans e')
  rw[e'] at e;simp only[Wq9.injEq] at e;omega
 refine⟨⟨?_,?_,?_,?_,?_,?_,?_,?_,?_,h.ibS,offn _ hI h.ibv,?_,?_,offn _ hS h.Sv⟩,?_⟩
 ·rw[z8 _ (by omega),cellS];exact h.c0
 ·rw[z8 _ (by omega),cellS];exact h.c1
 ·rw[z8 _ (by omega),cellS];exact h.c2
 ·rw[z8 _ (by omega),cellS];exact h.c3
 ·exact World.cell?_setCell_same _ _ _ ((cellS 4).trans h.c4)
 ·rw[z8 _ (by omega),cellS];exact h.c5
 ·rw[z8 _ (by omega),cellS];exact h.c6
 ·intro i;rw[World.frozen?_setCell,frS];exact h.fz i
 ·refine YY (fun j hj=>?_) h.ibS _;rw[World.cell?_of_block (a:=⟨E.ib,E.io+j,none⟩) (blk E.ib hI h.ibv)];exact h.src j hj
 ·simp[World.setCell];omega
 ·simp[World.setCell];omega
 refine⟨hg.os.trans hx.os,hg.tape.trans hx.tape,hg.output.trans hx.output,?_,fun k h1 h2 h3=>(Below.heap_setCell w3 _ vn k h2).trans (blk k h1 h3),?_⟩
 ·simp[World.setCell];omega
 rcases hat with e | e
 ·exact .inl e
 exact .inr fun k hk=>by rw[e] at hk;simp only[Wq9.injEq] at hk;omega
end Go.Proofs.YtiaaekdpfpaigaaGreatDoor.Df
