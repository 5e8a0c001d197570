import Derived.Test.YticgindfipobiaaGreatDoorMn28
import Derived.Test.YticgindfipobiaaGreatDoorMn27
import Derived.Test.YticgindfipobiaaGreatDoorMn15
import Derived.Test.YticgindfipobiaaGreatDoorMn26
import Derived.Test.YticgindfipobiaaGreatDoorMn05
import Derived.Test.YticgindfipobiaaGreatDoorMn14
import Derived.Deep.Onto
set_option linter.unusedSectionVars false
set_option linter.unusedSimpArgs false
set_option linter.unusedVariables false
set_option maxRecDepth 20000
set_option maxHeartbeats 4000000
namespace Go.Proofs.YticgindfipobiaaGreatDoor
def ins (x:Er):List Er->List Er
 | []=>[x]
 | y :: t=>if qV x<qV y then x :: y :: t else y :: ins x t
theorem ins_perm (x:Er):∀ l:List Er,(ins x l).Perm (x :: l)
 | []=>by simp[ins]
 | y :: t=>by
  rw[ins]
  split
  ·exact List.Perm.refl _
  ·exact((ins_perm x t).cons y).trans (List.Perm.swap x y t)
theorem ins_asc (x:Er):∀ l:List Er,l.Pairwise (fun a b=>¬ qV b<qV a)->(ins x l).Pairwise (fun a b=>¬ qV b<qV a)
 | [],_=>by simp[ins]
 | y :: t,h=>by
  have h':=List.pairwise_cons.1 h
  rw[ins]
  split
  ·rename_i hlt
   refine List.pairwise_cons.2 ⟨fun b hb=>?_,h⟩
   rcases List.mem_cons.1 hb with rfl | hb
   ·exact fun e=>uK _ (jw _ _ _ e hlt)
   ·exact fun e=>h'.1 b hb (jw _ _ _ e hlt)
  ·rename_i hlt
   refine List.pairwise_cons.2 ⟨fun b hb=>?_,ins_asc x t h'.2⟩
   rcases List.mem_cons.1 ((ins_perm x t).subset hb) with rfl | hb
   ·exact hlt
   ·exact h'.1 b hb
def yx (l:List Er):List Er:=l.foldl (fun out x=>ins x out) []
theorem srt_go:∀ (l out:List Er),out.Pairwise (fun a b=>¬ qV b<qV a)->(l.foldl (fun out x=>ins x out) out).Pairwise (fun a b=>¬ qV b<qV a)/\(l.foldl (fun out x=>ins x out) out).Perm (out++l)
 | [],out,h=>⟨h,by simp⟩
 | x :: l,out,h=>by
  obtain⟨h1,h2⟩:=srt_go l (ins x out) (ins_asc x out h)
  refine⟨h1,h2.trans ?_⟩
  refine((ins_perm x out).append_right l).trans ?_
  exact List.perm_middle.symm
theorem srtE_asc (l:List Er):(yx l).Pairwise (fun a b=>¬ qV b<qV a):=(srt_go l [] List.Pairwise.nil).1
theorem yW (l:List Er):(yx l).Perm l:=(srt_go l [] List.Pairwise.nil).2.trans (by simp)
theorem srtE_one (l x:List Er) (hn:(l.map qV).Nodup) (hp:x.Perm l) (ha:x.Pairwise (fun a b=>¬ qV b<qV a)):x=yx l :=
 asc_one x (yx l) (hp.trans (yW l).symm) (((hp.map qV).nodup_iff).2 hn) ha (srtE_asc l)
theorem key_inj (x y:Er) (hx:∀ b ∈ x.name,b ≠ 47) (hy:∀ b ∈ y.name,b ≠ 47) (h:qV x=qV y):x.name=y.name:=by
 unfold qV at h
 split at h <;> split at h
 ·exact List.append_cancel_right h
 ·exact absurd rfl (hy 47 (by rw[<-h];simp))
 ·exact absurd rfl (hx 47 (by rw[h];simp))
 ·exact h
theorem key_nodup:∀ (l:List Er),(∀ x ∈ l,∀ b ∈ x.name,b ≠ 47)->(l.map (·.name)).Nodup->(l.map qV).Nodup
 | [],_,_=>by simp
 | x :: l,h,hn=>by
  rw[List.map_cons,List.nodup_cons] at hn ⊢
  refine⟨fun hm=>hn.1 ?_,key_nodup l (fun y hy=>h y (by simp[hy])) hn.2⟩
  obtain⟨y,hy,e⟩:=List.mem_map.1 hm
  exact List.mem_map.2 ⟨y,hy,(key_inj y x (h y (by simp[hy])) (h x (by simp)) e)⟩
end Go.Proofs.YticgindfipobiaaGreatDoor
namespace Go.Proofs.YticgindfipobiaaGreatDoor
open Go.RowKit
variable [Inhabited Er]
theorem keyed9:Maps.Keyed Tryz.prog 9:=Maps.string_keyed Tryz.underlying9
theorem key_str (x:List UInt8) (h:x.length<=1000000):keyOf Tryz.prog 9 (.string ⟨x.toArray⟩)=some (.string x):=by
 have h2:(⟨x.toArray⟩:ByteArray).size<=maxLen:=by simp[ByteArray.size,maxLen];omega
 unfold keyOf
 rw[Tryz.underlying9]
 simp[mapKey,Tryz.underlying9,h2]
theorem str_inj {x y:List UInt8} (h:(Value.string ⟨x.toArray⟩)=.string ⟨y.toArray⟩):x=y:=by
 injection h with h
 have:=congrArg (fun b:ByteArray=>b.data.toList) h
 simpa using this
structure Ps (w:World) (a:Option Addr) (cap:Nat) (ss:List (List UInt8)):Prop where
 capl:ss.length<=cap
 at_:0<ss.length->∃ b off,a=some ⟨b,off,none⟩/\b<w.heap.size/\∀ i,i<ss.length->w.cell? ⟨b,off+i,none⟩=some (.string ⟨(ss.getD i []).toArray⟩)
theorem Ps.below {w w':World} {a:Option Addr} {cap:Nat} {ss:List (List UInt8)} (h:Ps w a cap ss) (hb:Below w.heap.size w w'):Ps w' a cap ss :=
 ⟨h.capl,fun h0=>by
  obtain⟨b,off,e1,e2,e3⟩:=h.at_ h0
  exact⟨b,off,e1,Nat.lt_of_lt_of_le e2 hb.size,fun i hi=>(hb.cell (p:=⟨b,off+i,none⟩) e2).trans (e3 i hi)⟩⟩
def DS (l:List (List UInt8)) (i:Nat) (D:DataW Unit):Prop:=(∀ kl,Maps.has D kl=true ↔ ∃ x ∈ l,keyOf Tryz.prog 9 (.string ⟨x.toArray⟩)=some kl)/\Maps.size D<=i/\(Maps.size D=i ↔ l.Nodup)
theorem ds_zero:DS [] 0 (.map []):=⟨fun kl=>by simp[Maps.has],Nat.le_refl _,by simp[Maps.size]⟩
theorem DS.step {l:List (List UInt8)} {i:Nat} {D:DataW Unit} (h:DS l i D) (ht:Maps.Tidy D) (x:List UInt8) (kl:Lit) (hk:keyOf Tryz.prog 9 (.string ⟨x.toArray⟩)=some kl) (d:DataW Unit):DS (l++[x]) (i+1) (D.put kl d):=by
 obtain⟨h1,h2,h3⟩:=h
 have hx:Maps.has D kl=true ↔ x ∈ l:=by
  rw[h1]
  constructor
  ·rintro⟨y,hy,e⟩
   rw[<-str_inj (keyed9.inj e hk)]
   exact hy
  ·intro hx;exact⟨x,hx,hk⟩
 refine⟨fun kl'=>?_,?_,?_⟩
 ·by_cases e:kl'=kl
  ·subst e
   rw[Maps.has_put_same ht.isMap (keyed9.key hk)]
   simp only[true_iff]
   exact⟨x,by simp,hk⟩
  ·rw[Maps.has_put_other e,h1]
   constructor
   ·rintro⟨y,hy,e2⟩;exact⟨y,by simp[hy],e2⟩
   ·rintro⟨y,hy,e2⟩
    rcases List.mem_append.1 hy with hy | hy
    ·exact⟨y,hy,e2⟩
    ·have:y=x:=by simpa using hy
     subst this
     rw[hk] at e2
     exact absurd (Option.some.inj e2).symm e
 ·rw[Maps.size_put ht]
  split <;> omega
 ·rw[Maps.size_put ht,List.nodup_append]
  by_cases hm:x ∈ l
  ·rw[if_pos (hx.2 hm)]
   constructor
   ·intro e;omega
   ·rintro⟨_,_,h⟩
    exact absurd rfl (h x hm x (by simp))
  ·rw[if_neg (fun e=>hm (hx.1 e))]
   constructor
   ·intro e
    refine⟨h3.1 (by omega),by simp,fun a ha b hb e2=>?_⟩
    have:b=x:=by simpa using hb
    rw[e2,this] at ha
    exact hm ha
   ·rintro⟨h,_,_⟩
    have:=h3.2 h
    omega
theorem take_snocS (ss:List (List UInt8)) (i:Nat) (h:i<ss.length):ss.take (i+1)=ss.take i++[ss.getD i []]:=by
 rw[List.take_add_one,List.getD_eq_getElem?_getD,List.getElem?_eq_getElem h]
 rfl
theorem run_makeMap_str (n:Nat) (hn:n<=2000) (w:World):(Instr.makeMap 280 (some (.int .i64 (n:Int)))).run Tryz.prog w=.ok (.map (some w.heap.size)) (w.alloc (.map #[] 0)):=by
 have h:¬ (n:Int)<0:=by omega
 unfold Instr.makeMap
 go_simp
set_option maxHeartbeats 1000000 in
theorem differS_any (a:Option Addr) (cap:Nat) (ids:List (List UInt8)) (hwf:∀ x ∈ ids,x.length<=1000000) (hn:ids.length<=2000) (w:World) (hP:Ps w a cap ids) :
  Calls Tryz.prog 149 #[.slice a ids.length cap] w fun e w'=>BIs ids.Nodup e/\Below w.heap.size w w':=by
 obtain⟨n,HN⟩:=nm_ ids.length
 obtain⟨G,HG⟩:=nm_ w.heap.size
 have hnn:n<=2000:=by rw[<-HN.out];exact hn
 have HPA:Hid (∀ W,Below G w W->Ps W a cap ids):=fun W hW=>hP.below (by rw[HG.out];exact hW)
 have HPL:Hid (0<n->∃ b off,a=some ⟨b,off,none⟩/\b<G):=fun h0=>by
  obtain⟨b,off,e1,e2,_⟩:=hP.at_ (by rw[HN.out];exact h0)
  exact⟨b,off,e1,by rw[<-HG.out];exact e2⟩
 obtain⟨w1,HW1⟩:=nm_ (w.alloc (.map #[] 0))
 have OW1:Hid (w1.ownsMap (H:=Unit) Tryz.prog 9 (plainElem Tryz.prog 3) G 0 (.map [])):=hid (by rw[<-HW1.out,<-HG.out];exact World.ownsMap_made _ _ _ _)
 have HB1:Hid (Below G w w1):=hid (by rw[<-HW1.out,<-HG.out];exact(Below.refl _ w).alloc (Nat.le_refl _) _)
 have hmm:(Instr.makeMap 280 (some (.int .i64 (n:Int)))).run Tryz.prog w=.ok (.map (some w.heap.size)) (w.alloc (.map #[] 0)):=run_makeMap_str n hnn w
 rw[HN.out]
 clear hP
 go_enter Tryz.func149,Tryz.ntmps149
 go_wp2_with fail
 rw[HG.out,HW1.out]
 go_loopg [11] n (fun g v wr=>∃ (i:Nat) (D:DataW Unit),i<=n/\v=.int .i64 i/\g=n-i/\Hid (wr.ownsMap (H:=Unit) Tryz.prog 9 (plainElem Tryz.prog 3) G i D)/\Hid (Below G w wr)/\Hid (DS (ids.take i) i D))
 case atStart=>exact⟨0,_,Nat.zero_le _,rfl,rfl,OW1,HB1,hid (by rw[List.take_zero];exact ds_zero)⟩
 case round =>
  obtain⟨i,D,hi,rfl,hk,OW,HB,HD⟩:=hrel
  by_cases hlt:i<n
  ·have hlti:(i:Int)<(n:Int):=by omega
   obtain⟨b,off,hae,hbG⟩:=HPL.out (by omega)
   subst hae
   obtain⟨b',off',e1,e2,e3⟩:=(HPA.out wr HB.out).at_ (by rw[HN.out];omega)
   cases e1
   obtain⟨x,HX⟩:=nm_ (ids.getD i [])
   have hxm:x ∈ ids:=by
    rw[<-HX.out,List.getD_eq_getElem?_getD,List.getElem?_eq_getElem (by rw[HN.out];exact hlt)]
    exact List.getElem_mem _
   have hkl:=key_str x (hwf x hxm)
   obtain⟨S,HS⟩:=nm_ ((⟨x.toArray⟩:ByteArray):ByteArray)
   have HKL:Hid (keyOf Tryz.prog 9 (.string S)=some (.string x)):=hid (by rw[<-HS.out];exact hkl)
   have HKX:Hid (keyOf Tryz.prog 9 (.string ⟨x.toArray⟩)=some (.string x)):=hkl
   have cS:wr.cell? ⟨b,off+i,none⟩=some (.string S):=by rw[<-HS.out,<-HX.out];exact e3 i (by rw[HN.out];exact hlt)
   have HWF:Hid ((Lit.int .i64 (i:Int)).wf=true):=hid (WalkArith.wf_i64 (by omega))
   clear hkl hxm e3 e2
   go_wp2_with (first
    | (at_mapUpdate;refine wpList_mapUpdate_own _ rfl _ _ _ 280 rfl 9 3 keyed9 Tryz.underlying280 _ G i D rfl OW.out (by unfold maxLen;omega) _ _ (.string x) rfl rfl HKL.out _ [] (plainElem_int Tryz.underlying3 HWF.out) ?_;intro w3 hown3 hgrow3;have OW3:Hid _:=hown3;have HB3:Hid (Below G w w3):=HB.out.grown hgrow3 (Nat.le_of_lt OW.out.lt) (fun j hj=>by cases hj;exact Nat.le_refl _);clear hown3 hgrow3))
   go_roundg (n-(i+1))
   case measure=>omega
   case rel =>
    refine⟨i+1,_,by omega,by go_num,rfl,OW3,HB3,hid ?_⟩
    rw[take_snocS ids i (by rw[HN.out];exact hlt),HX.out]
    exact HD.out.step (OW.out.tidy keyed9) x (.string x) HKX.out _
  ·have hlti:¬ (i:Int)<(n:Int):=by omega
   have hin:i=n:=by omega
   have HDN:Hid (Maps.size D=n ↔ ids.Nodup):=hid (by
    have:=HD.out.2.2
    rw[hin,List.take_of_length_le (by rw[HN.out];omega)] at this
    exact this)
   obtain⟨sz,HSZ⟩:∃ sz,Maps.size D=sz:=⟨_,rfl⟩
   obtain⟨eq,HEQ⟩:∃ b:Bool,((sz:Int) == (n:Int))=b:=⟨_,rfl⟩
   have FIN:Hid (BIs ids.Nodup (.returned (.bool eq))):=⟨eq,rfl,by
    rw[<-HDN.out,HSZ,<-HEQ]
    simp only[beq_iff_eq]
    omega⟩
   go_wp2_with (first
    | (at_len;refine wpList_len_own _ rfl _ 280 rfl 9 3 Tryz.underlying280 _ G i D rfl OW.out ?_;rw[HSZ]))
   go_ret
   exact⟨FIN.out,by rw[HG.out];exact HB.out⟩
end Go.Proofs.YticgindfipobiaaGreatDoor
namespace Go.Proofs.YticgindfipobiaaGreatDoor
open Go.RowKit
variable [Inhabited Er]
def okL (es:List Er):Prop:=(∀ x ∈ es,okM x.mode/\okE x.name)/\(es.map (·.name)).Nodup
def nmV (es:List Er):List Value:=es.map fun x=>.string ⟨x.name.toArray⟩
theorem nmV_snoc (es:List Er) (x:Er):nmV (es++[x])=nmV es++[.string ⟨x.name.toArray⟩]:=by simp[nmV]
theorem ps_own {w:World} {B:Nat} {a:Option Addr} {n cp:Nat} {es:List Er} (h:w.ownsRow B 9 1 (.slice a n cp) n (nmV es)) (hn:es.length=n):Ps w a cp (es.map (·.name)):=by
 obtain⟨hl,⟨h1,h2⟩ | ⟨g,cap,cur,h1,h2,h3,h4,h5,h6,h7⟩⟩:=h
 ·cases h1
  refine⟨by rw[List.length_map,hn];exact Nat.le_refl _,fun h0=>?_⟩
  rw[List.length_map,hn] at h0
  exact absurd h0 (Nat.lt_irrefl _)
 ·cases h1
  refine⟨by simp;omega,fun h0=>⟨g,0,rfl,z6 h3,fun i hi=>?_⟩⟩
  rw[List.length_map] at hi
  have hr:=zx (cs:=cur.toList) (by simpa using h3) i (.string ⟨((es.map (·.name)).getD i []).toArray⟩) (by
   have:cur.toList[i]? = (nmV es)[i]? := by rw[<-h7,List.getElem?_take,if_pos (by omega)]
   rw[this]
   simp[nmV,List.getElem?_map,List.getD_eq_getElem?_getD,List.getElem?_eq_getElem hi])
  simpa using hr
set_option maxHeartbeats 1000000 in
theorem isTree_any (a:Option Addr) (cap:Nat) (es:List Er) (hwf:WfE es) (hn:es.length<=2000) (w:World) (hP:Pe w a cap es) :
  Calls Tryz.prog 113 #[.slice a es.length cap] w fun e w'=>BIs (okL es) e/\Below w.heap.size w w':=by
 obtain⟨i9,hi9,hz0,hz1,hz2⟩:=zQ Tryz.info9E
 obtain⟨n,HN⟩:=nm_ es.length
 obtain⟨G,HG⟩:=nm_ w.heap.size
 have hnn:n<=2000:=by rw[<-HN.out];exact hn
 have hnI:¬ (2000:Int)<(n:Int):=by omega
 obtain⟨zr,HZ⟩:=nn_ ((erV ⟨0,[],z20⟩).toArray:Array Value)
 have hz51:∀ w:World,(zeroValue 154).run Tryz.prog w=.ok (.agg zr) w:=fun w=>by rw[HZ.out];exact zero51 w
 have HPA:Hid (∀ W,Below G w W->Pe W a cap es):=fun W hW=>hP.below (by rw[HG.out];exact hW)
 have HPL:Hid (0<n->∃ b off,a=some ⟨b,off,none⟩/\b<G):=fun h0=>by
  obtain⟨b,off,e1,e2,_⟩:=hP.at_ (by rw[HN.out];exact h0)
  exact⟨b,off,e1,by rw[<-HG.out];exact e2⟩
 have HS0:Hid (G<=w.heap.size):=hid (by rw[HG.out];exact Nat.le_refl _)
 rw[HN.out]
 clear hP
 go_enter Tryz.func113,Tryz.ntmps113
 go_wp2_with fail
 go_loopg [3,11] n (fun g v iv wr=>∃ (i:Nat) (va:Option Addr) (vc:Nat),i<=n/\g=n-i/\iv=.int .i64 i/\v=.slice va i vc/\Hid (wr.ownsRow G 9 1 (.slice va i vc) i (nmV (es.take i)))/\Hid (Below G w wr)/\Hid (∀ x ∈ es.take i,okM x.mode/\okE x.name))
 case atStart=>exact⟨0,none,0,Nat.zero_le _,rfl,rfl,rfl,hid (World.ownsRow_nil _ _ _ _),hid (by rw[<-HG.out];exact Below.refl _ _),hid (by simp)⟩
 case round =>
  obtain⟨i,va,vc,hi,hk,rfl,rfl,OW,HB,HD⟩:=hrel
  by_cases hlt:i<n
  ·have hlti:(i:Int)<(n:Int):=by omega
   obtain⟨b,off,hae,hbG⟩:=HPL.out (by omega)
   subst hae
   obtain⟨b',off',e1,e2,e3⟩:=(HPA.out wr HB.out).at_ (by rw[HN.out];omega)
   cases e1
   obtain⟨x,HX⟩:=nm_ (es.getD i default)
   have hxm:x ∈ es:=by
    rw[<-HX.out,List.getD_eq_getElem?_getD,List.getElem?_eq_getElem (by rw[HN.out];exact hlt)]
    exact List.getElem_mem _
   have hx20:=(hwf x hxm).1
   obtain⟨R,HR⟩:=nm_ (erV x)
   obtain⟨S,HS⟩:=nm_ ((⟨x.name.toArray⟩:ByteArray):ByteArray)
   obtain⟨m,HM⟩:=nm_ x.mode
   have RR:Hid (wr.rangeAt b (off+i*22) R):=hid (by rw[<-HR.out,<-HX.out];exact e3 i (by rw[HN.out];exact hlt))
   have HFN:Hid (R.length=22):=hid (by rw[<-HR.out];exact yz x hx20)
   have hi51:(Tryz.prog.info? 154).map (·.size)=some R.length:=by rw[HFN.out];exact Q8
   have I51:Hid ((Tryz.prog.info? 154).map (·.size)=some R.toArray.size):=hid (by rw[List.size_toArray];exact hi51)
   have E51:Hid (zr.size=R.toArray.size):=hid (by rw[HZ.out,List.size_toArray,List.size_toArray,HFN.out];rfl)
   have O51:Hid (R.toArray.all (·.oneCell')=true):=hid (by rw[<-HR.out];exact all_oneCell_toArray (j0 _))
   have D0:Hid ((wr.alloc (.cells zr 154)).heap[wr.heap.size]? = some (.cells zr 154 (0,0))):=heap_alloc_new wr _
   obtain⟨w2,HW2⟩:=nm_ ((wr.alloc (.cells zr 154)).setRow wr.heap.size R.toArray)
   obtain⟨H,HH⟩:=nm_ wr.heap.size
   have hGH:G<=H:=by rw[<-HH.out];have:=HB.out.size;have:=HS0.out;omega
   have hb2:Below wr.heap.size wr w2:=by rw[<-HW2.out];exact below_setRow ((Below.refl _ wr).alloc (Nat.le_refl _) _) (Nat.le_refl _) _
   have B2:Hid (w2.heap[H]? = some (.cells R.toArray 154 (0,0))):=hid (by rw[<-HW2.out,<-HH.out];exact setRow_heap _ _ _ R.toArray _ _ D0.out)
   have hH2:H<w2.heap.size:=z6 B2.out
   have HC:Hid (∀ W,Below w2.heap.size w2 W->W.cell? ⟨H,0,none⟩=some (.int .i64 m)/\W.cell? ⟨H,1,none⟩=some (.string S)):=fun W hW=>by
    have hr:=zx ((hW.block H hH2).trans B2.out)
    rw[<-HR.out] at hr
    exact⟨by rw[<-HM.out];simpa using hr 0 _ rfl,by rw[<-HS.out];simpa using hr 1 _ rfl⟩
   have c0:=(HC.out w2 (Below.refl _ _)).1
   have c1:=(HC.out w2 (Below.refl _ _)).2
   have OW2:Hid (w2.ownsRow G 9 1 (.slice va i vc) i (nmV (es.take i))):=OW.out.kept (zw hb2 none) (by cases e:(Value.slice va i vc).ownBlock <;> simp)
   have HB2:Hid (Below G w w2):=HB.out.trans (hb2.mono (by rw[HH.out];exact hGH))
   have HB2sz:G<=w2.heap.size:=by omega
   have HGG:Hid (G=w.heap.size):=hid HG.out.symm
   have HTS:Hid (es.take (i+1)=es.take i++[x]):=hid (by rw[xK es i (by rw[HN.out];exact hlt),HX.out])
   have HXM:Hid (x ∈ es):=hxm
   clear hb2 hxm e3 e2
   by_cases hm:okM m
   ·have C86:Hid (∀ w,Calls Tryz.prog 147 #[.int .i64 m] w fun e w'=>e=.returned (.bool true)/\w'=w):=fun w=>(isMode_any m w).mono (by
     rintro e w' ⟨hb,rfl⟩
     rcases x8 hb with ⟨_,rfl⟩ | ⟨h,_⟩
     ·exact⟨rfl,rfl⟩
     ·exact absurd hm h)
    have HOM:Hid (okM x.mode):=hid (by rw[HM.out];exact hm)
    clear hm
    by_cases he:okE x.name
    ·have C87:Hid (∀ w,Calls Tryz.prog 148 #[.string S] w fun e w'=>e=.returned (.bool true)/\Below w.heap.size w w'):=fun w=>by
      rw[<-HS.out]
      refine(Qy x.name w).mono ?_
      rintro e w' ⟨hb,h2⟩
      rcases x8 hb with ⟨_,rfl⟩ | ⟨h,_⟩
      ·exact⟨rfl,h2⟩
      ·exact absurd he h
     have HOE:Hid (okE x.name):=he
     clear he
     go_wp2_with (first
      | refine wpList_load_mid rfl 154 _ rfl b (off+i*22) rfl R _ RR.out Tryz.underlying154 rfl hi51 ?_
      | (refine wpList_store_row rfl 154 _ _ rfl wr.heap.size R.toArray rfl rfl 154 zr D0.out I51.out E51.out O51.out ?_;rw[HW2.out,HH.out])
      | (go_at_call 147;refine(C86.out _).mono ?_;rintro ev w3 ⟨rfl,rfl⟩)
      | (go_at_call 148;refine(C87.out _).mono ?_;rintro ev w3 ⟨rfl,hb3⟩;have c13:=(HC.out w3 hb3).2;have OW3:Hid (w3.ownsRow G 9 1 (.slice va i vc) i (nmV (es.take i))):=OW2.out.kept (zw hb3 none) (by cases e:(Value.slice va i vc).ownBlock <;> simp);have HB3:Hid (Below G w w3):=HB2.out.trans (hb3.mono HB2sz);clear hb3)
      | (at_builtin;refine wpList_append_own_at _ rfl _ _ 211 rfl G 9 i9 (.string ⟨#[]⟩) 1 16 Tryz.underlying211 hi9 hz0 hz1 hz2 rfl (by decide) _ i _ rfl (OW3.out.alloc _) ⟨w3.heap.size,0,none⟩ 1 1 [.string S] rfl rfl (YJ _ [.string S] 9) (by intro u hu;simp at hu;rw[hu];rfl) (by unfold maxLen;omega) (by omega) (by have:=HB3.out.size;have:=HS0.out;simp;omega) ?_;intro v1 w4 ho4 hg4 hn4 hl4;obtain⟨a4,c4,rfl⟩:=qw ho4;have OW4:Hid (w4.ownsRow G 9 1 (.slice a4 (i+1:Nat) c4) (i+1) (nmV (es.take i)++[.string S])):=ho4;have HB4:Hid (Below G w w4):=(HB3.out.trans ((Below.refl _ w3).alloc (Nat.le_refl _) _ |>.mono (by have:=HB3.out.size;have:=HS0.out;omega))).grown hg4 (by have:=HB3.out.size;have:=HS0.out;simp;omega) (fun k hk=>(OW3.out.lt k hk).1);clear ho4 hg4 hn4 hl4)
      | fail)
     go_roundg (n-(i+1))
     case measure=>omega
     case rel =>
      refine⟨i+1,a4,c4,by omega,rfl,by go_num,rfl,hid ?_,HB4,hid ?_⟩
      ·rw[HTS.out,nmV_snoc,HS.out];exact OW4.out
      ·rw[HTS.out]
       intro y hy
       rcases List.mem_append.1 hy with hy | hy
       ·exact HD.out y hy
       ·have:y=x:=by simpa using hy
        subst this
        exact⟨HOM.out,HOE.out⟩
    ·have C87:Hid (∀ w,Calls Tryz.prog 148 #[.string S] w fun e w'=>e=.returned (.bool false)/\Below w.heap.size w w'):=fun w=>by
      rw[<-HS.out]
      refine(Qy x.name w).mono ?_
      rintro e w' ⟨hb,h2⟩
      rcases x8 hb with ⟨h,_⟩ | ⟨_,rfl⟩
      ·exact absurd h he
      ·exact⟨rfl,h2⟩
     have NOK:Hid (¬ okL es):=fun h=>he (h.1 x HXM.out).2
     clear he
     go_wp2_with (first
      | refine wpList_load_mid rfl 154 _ rfl b (off+i*22) rfl R _ RR.out Tryz.underlying154 rfl hi51 ?_
      | (refine wpList_store_row rfl 154 _ _ rfl wr.heap.size R.toArray rfl rfl 154 zr D0.out I51.out E51.out O51.out ?_;rw[HW2.out,HH.out])
      | (go_at_call 147;refine(C86.out _).mono ?_;rintro ev w3 ⟨rfl,rfl⟩)
      | (go_at_call 148;refine(C87.out _).mono ?_;rintro ev w3 ⟨rfl,hb3⟩;have HB3:Hid (Below G w w3):=HB2.out.trans (hb3.mono HB2sz);clear hb3)
      | fail)
     go_ret
     exact⟨zX NOK.out,by rw[<-HGG.out];exact HB3.out⟩
   ·have C86:Hid (∀ w,Calls Tryz.prog 147 #[.int .i64 m] w fun e w'=>e=.returned (.bool false)/\w'=w):=fun w=>(isMode_any m w).mono (by
     rintro e w' ⟨hb,rfl⟩
     rcases x8 hb with ⟨h,_⟩ | ⟨_,rfl⟩
     ·exact absurd h hm
     ·exact⟨rfl,rfl⟩)
    have NOK:Hid (¬ okL es):=fun h=>hm (by rw[<-HM.out];exact(h.1 x HXM.out).1)
    clear hm
    go_wp2_with (first
     | refine wpList_load_mid rfl 154 _ rfl b (off+i*22) rfl R _ RR.out Tryz.underlying154 rfl hi51 ?_
     | (refine wpList_store_row rfl 154 _ _ rfl wr.heap.size R.toArray rfl rfl 154 zr D0.out I51.out E51.out O51.out ?_;rw[HW2.out,HH.out])
     | (go_at_call 147;refine(C86.out _).mono ?_;rintro ev w3 ⟨rfl,rfl⟩)
     | fail)
    go_ret
    exact⟨zX NOK.out,by rw[<-HGG.out];exact HB2.out⟩
  ·have hlti:¬ (i:Int)<(n:Int):=by omega
   have hin:i=n:=by omega
   subst hin
   have htk:es.take i=es:=List.take_of_length_le (by rw[HN.out];exact Nat.le_refl _)
   have hD:=HD.out
   rw[htk] at hD OW
   have HPS:Hid (Ps wr va vc (es.map (·.name))):=hid (ps_own OW.out HN.out)
   have hln:(es.map (·.name)).length=i:=by rw[List.length_map];exact HN.out
   have C88:Hid (Calls Tryz.prog 149 #[.slice va i vc] wr fun e w'=>BIs (okL es) e/\Below wr.heap.size wr w'):=hid (by
    have:=differS_any va vc (es.map (·.name)) (fun y hy=>by
     obtain⟨x,hx,rfl⟩:=List.mem_map.1 hy
     have:=(hD x hx).2.2.1
     omega) (by rw[hln];exact hnn) wr HPS.out
    rw[hln] at this
    refine this.mono ?_
    rintro e w' ⟨⟨b,rfl,hb⟩,h2⟩
    exact⟨⟨b,rfl,hb.trans ⟨fun h=>⟨hD,h⟩,fun h=>h.2⟩⟩,h2⟩)
   clear hD htk hln
   go_wp2_with fail
   refine C88.out.mono ?_
   rintro ev w3 ⟨⟨bb,rfl,hbb⟩,hb3⟩
   have HBB:Hid (BIs (okL es) (.returned (.bool bb))):=⟨bb,rfl,hbb⟩
   have HB3:Hid (Below G w w3):=HB.out.trans (hb3.mono (by have:=HB.out.size;have:=HS0.out;omega))
   clear hbb hb3
   go_wp2
   go_ret
   exact⟨HBB.out,by rw[HG.out];exact HB3.out⟩
end Go.Proofs.YticgindfipobiaaGreatDoor
namespace Go.Proofs.YticgindfipobiaaGreatDoor
open Go.RowKit
def y7 (m:Int):List UInt8:=if m=16384 then [52,48,48,48,48] else if m=33188 then [49,48,48,54,52,52] else if m=33261 then [49,48,48,55,53,53] else if m=40960 then [49,50,48,48,48,48] else []
theorem octB_nil (m:Int):y7 m=[] ↔ ¬ okM m:=by
 unfold y7 okM
 by_cases h1:m=16384
 ·simp[h1]
 ·by_cases h2:m=33188
  ·simp[h2]
  ·by_cases h3:m=33261
   ·simp[h3]
   ·by_cases h4:m=40960
    ·simp[h4]
    ·simp[h1,h2,h3,h4]
theorem octal_any (m:Int) (w:World):Calls Tryz.prog 98 #[.int .i64 m] w fun e w'=>e=.returned (.string ⟨(y7 m).toArray⟩)/\w'=w:=by
 by_cases h:okM m
 ·rcases h with rfl | rfl | rfl | rfl
  all_goals
   go_enter Tryz.func98,Tryz.ntmps98
   go_wp2
   go_ret
   exact⟨rfl,rfl⟩
 ·have HM:Hid (y7 m=[]):=(octB_nil m).2 h
  have h1:¬ m=16384:=fun e=>h (Or.inl e)
  have h2:¬ m=33188:=fun e=>h (Or.inr (Or.inl e))
  have h3:¬ m=33261:=fun e=>h (Or.inr (Or.inr (Or.inl e)))
  have h4:¬ m=40960:=fun e=>h (Or.inr (Or.inr (Or.inr e)))
  rw[HM.out]
  clear h
  go_enter Tryz.func98,Tryz.ntmps98
  go_wp2
  go_ret
  exact⟨rfl,rfl⟩
theorem key_any (e:Er) (hn:e.name.length<=1000000) (hl:e.id.length=20) (w:World):Calls Tryz.prog 135 #[.agg (erV e).toArray] w fun r w'=>r=.returned (.string ⟨(qV e).toArray⟩)/\vy w w':=by
 obtain⟨S,HS⟩:=nn_ (⟨e.name.toArray⟩:ByteArray)
 obtain⟨m,HM⟩:=nm_ e.mode
 have hsz:S.size=e.name.length:=by rw[HS.out];simp[ByteArray.size]
 have hS1:¬ 9223372036854775807<S.size+1:=by omega
 have hS2:¬ 9223372036854775807<=S.size:=by omega
 have h47:(⟨#[47]⟩:ByteArray).size=1:=rfl
 have HE:Hid (S ++ ⟨#[47]⟩=⟨(e.name++[47]).toArray⟩):=hid (by
  rw[HS.out,show (⟨#[47]⟩:ByteArray)=⟨[47].toArray⟩ from rfl]
  exact yw _ _)
 have HG:Hid (∀ o,vy w (w.alloc o)):=fun o=>vy.alloc w o
 obtain⟨a0,a1,a2,a3,a4,a5,a6,a7,a8,a9,a10,a11,a12,a13,a14,a15,a16,a17,a18,a19,el⟩:=uw e.id hl
 have HV:Hid ((erV e).toArray=(Value.int .i64 m :: Value.string S :: row .u8 [a0,a1,a2,a3,a4,a5,a6,a7,a8,a9,a10,a11,a12,a13,a14,a15,a16,a17,a18,a19]).toArray):=hid (by unfold erV;rw[HM.out,HS.out,el])
 rw[HV.out]
 clear el hl hn
 simp only[row,List.map_cons,List.map_nil]
 by_cases h:m=16384
 ·have HK:Hid (⟨(qV e).toArray⟩=S ++ ⟨#[47]⟩):=hid (by rw[HE.out];unfold qV;rw[HM.out,if_pos h])
  rw[HK.out]
  subst h
  go_enter Tryz.func135,Tryz.ntmps135
  go_wp2
  go_ret
  exact⟨rfl,HG.out _⟩
 ·have HK:Hid (⟨(qV e).toArray⟩=S):=hid (by rw[HS.out];unfold qV;rw[HM.out,if_neg h])
  rw[HK.out]
  go_enter Tryz.func135,Tryz.ntmps135
  go_wp2
  go_ret
  exact⟨rfl,HG.out _⟩
def erB (x:Er):List UInt8:=y7 x.mode++32 :: (x.name++0 :: Lib.bytesOf x.id)
def zY (es:List Er):List UInt8:=es.flatMap erB
theorem k7 (x:Er) (es:List Er):zY (x :: es)=erB x++zY es:=by simp[zY]
theorem treeB_snoc (es:List Er) (x:Er):zY (es++[x])=zY es++erB x:=by simp[zY]
def kY (u:List Er):Prop:=WfE u/\∀ x ∈ u,okM x.mode/\okE x.name
theorem okTr_tail {x:Er} {u:List Er} (h:kY (x :: u)):kY u:=⟨fun y hy=>h.1 y (by simp[hy]),fun y hy=>h.2 y (by simp[hy])⟩
theorem ux (m:Int):(y7 m).length<=6:=by
 unfold y7
 repeat' split
 all_goals decide
theorem octB_ne (m:Int):∀ b ∈ y7 m,b ≠ 32/\b ≠ 0:=by
 unfold y7
 repeat' split
 all_goals decide
theorem erB_len (x:Er):(erB x).length=(y7 x.mode).length+x.name.length+x.id.length+2:=by
 simp[erB,Lib.bytesOf_length];omega
theorem treeB_len (es:List Er) (h:∀ x ∈ es,x.name.length<=50/\x.id.length=20):(zY es).length<=es.length*78:=by
 induction es with
 | nil=>simp[zY]
 | cons x es ih =>
  rw[k7,List.length_append,erB_len,List.length_cons]
  have h1:=h x (by simp)
  have h2:=ih (fun y hy=>h y (by simp[hy]))
  have h3:=ux x.mode
  omega
theorem XQ (l:List Int) (h:∀ n ∈ l,0<=n/\n<256):q8 (Lib.bytesOf l)=l:=V3 l (fun x hx=>h x hx)
def Rb (l:List UInt8) (pre:List Er) (t:List UInt8):Prop := ∀ u,kY u->zY u=l->∃ u2,u=pre++u2/\kY u2/\zY u2=t
theorem Rb.start (l:List UInt8):Rb l [] l:=fun u h e=>⟨u,rfl,h,e⟩
def Rf (t:List UInt8) (x:Er) (r:List UInt8):Prop := ∀ y r',okM y.mode->okE y.name->y.id.length=20->(∀ n ∈ y.id,0<=n/\n<256)->t=erB y++r'->x=y/\r=r'
theorem Rb.step {l:List UInt8} {pre:List Er} {t:List UInt8} (h:Rb l pre t) (hne:t ≠ []) (x:Er) (r:List UInt8) (hx:Rf t x r):Rb l (pre++[x]) r:=by
 intro u hu e
 obtain⟨u2,h1,h2,h3⟩:=h u hu e
 match u2,h1,h2,h3 with
 | [],_,_,h3=>exact absurd h3.symm (by simpa [zY] using hne)
 | y :: u3,h1,h2,h3 =>
  rw[k7] at h3
  have hy:=h2.1 y (by simp)
  have hy2:=h2.2 y (by simp)
  obtain⟨rfl,rfl⟩:=hx y (zY u3) hy2.1 hy2.2 hy.1 hy.2 h3.symm
  exact⟨u3,by rw[h1];simp,okTr_tail h2,rfl⟩
theorem Rb.done {l:List UInt8} {es:List Er} (h:Rb l es []) (u:List Er) (hu:kY u) (e:zY u=l):es=u:=by
 obtain⟨u2,h1,h2,h3⟩:=h u hu e
 match u2,h1,h3 with
 | [],h1,_=>rw[h1];simp
 | y :: u3,_,h3 =>
  rw[k7] at h3
  have:=congrArg List.length h3
  rw[List.length_append,erB_len] at this
  simp at this
theorem okL_perm {x y:List Er} (h:x.Perm y) (ho:okL x):okL y:=⟨fun a ha=>ho.1 a (h.symm.subset ha),((h.map (·.name)).nodup_iff).1 ho.2⟩
theorem okL_keys {es:List Er} (h:okL es):(es.map qV).Nodup:=key_nodup es (fun x hx b hb=>((h.1 x hx).2.2.2.2.2.2 b hb).1) h.2
theorem srtE_srtE {es:List Er} (h:okL es):yx (yx es)=yx es :=
 (srtE_one (yx es) (yx es) (((yW es).map qV).nodup_iff.2 (okL_keys h)) (List.Perm.refl _) (srtE_asc es)).symm
theorem wfE_perm {x y:List Er} (h:x.Perm y) (ho:WfE x):WfE y:=fun a ha=>ho a (h.symm.subset ha)
theorem okTr_srt {es:List Er} (hw:WfE es) (h:okL es):kY (yx es):=⟨wfE_perm (yW es).symm hw,(okL_perm (yW es).symm h).1⟩
theorem read_good {l:List UInt8} {es ed:List Er} {b:Bool} (hw:WfE es) (hp:∀ u,kY u->zY u=l->es=u) (ho:okL es) (he:zY (yx es)=l) (hd:∀ u,kY u->okL u->yx u=u->zY u=l->b=true/\ed=u):b=true/\ed=es:=by
 have h1:=hp (yx es) (okTr_srt hw ho) he
 have h2:=hd (yx es) (okTr_srt hw ho) (okL_perm (yW es).symm ho) (srtE_srtE ho) he
 exact⟨h2.1,h2.2.trans h1.symm⟩
theorem read_bad {l:List UInt8} {es ed:List Er} (hp:∀ u,kY u->zY u=l->es=u) (hno:¬ (okL es/\zY (yx es)=l)) (hw:WfE ed):¬ (okL ed/\zY (yx ed)=l):=by
 rintro⟨ho,he⟩
 have h1:=hp (yx ed) (okTr_srt hw ho) he
 refine hno ⟨?_,?_⟩
 ·rw[h1];exact okL_perm (yW ed).symm ho
 ·rw[h1,srtE_srtE ho];exact he
def LPt (l:List UInt8) (er:Int) (ids:List (List Int)):Prop := ∃ es:List Er,WfE es/\(∀ u,kY u->zY u=l->es=u)/\(((okL es/\zY (yx es)=l)/\er=0/\ids=es.map (·.id)) ∨ (¬ (okL es/\zY (yx es)=l)/\er=21/\ids=[]))
def LPc (l:List UInt8) (er:Int) (ids:List (List Int)):Prop := ∃ T,TC l T/\(((okC T/\cmB T=l)/\er=0/\ids=T.tree :: T.ids) ∨ (¬ (okC T/\cmB T=l)/\er=22/\ids=[]))
def LPg (l:List UInt8) (er:Int) (ids:List (List Int)):Prop := ∃ T,TG l T/\(((okG T/\x9 T=l)/\er=0/\ids=[T.id]) ∨ (¬ (okG T/\x9 T=l)/\er=23/\ids=[]))
def LDt (l:List UInt8) (er:Int) (ids:List (List Int)):Prop := ∃ (ed:List Er) (b:Bool),(b=true->WfE ed/\okL ed/\zY (yx ed)=l)/\(∀ u,kY u->okL u->yx u=u->zY u=l->b=true/\ed=u)/\((b=true/\er=0/\ids=ed.map (·.id)) ∨ (b=false/\er=21/\ids=[]))
def LDc (l:List UInt8) (er:Int) (ids:List (List Int)):Prop := ∃ (t:Cm) (b:Bool),WfC t/\(b=true->okC t/\cmB t=l)/\(∀ u:Cm,WfC u->okC u->cmB u=l->b=true)/\((b=true/\er=0/\ids=t.tree :: t.ids) ∨ (b=false/\er=22/\ids=[]))
def LDg (l:List UInt8) (er:Int) (ids:List (List Int)):Prop := ∃ (t:Tg) (b:Bool),Wf t/\(b=true->okG t/\x9 t=l)/\(∀ u:Tg,Wf u->okG u->x9 u=l->b=true)/\((b=true/\er=0/\ids=[t.id]) ∨ (b=false/\er=23/\ids=[]))
theorem same_t {l:List UInt8} {er er':Int} {ids ids':List (List Int)} (h:LPt l er ids) (h':LDt l er' ids'):er'=er/\ids'=ids:=by
 obtain⟨es,h1,h2,h3⟩:=h
 obtain⟨ed,b,k1,k2,k3⟩:=h'
 rcases h3 with ⟨⟨ho,he⟩,rfl,rfl⟩ | ⟨hno,rfl,rfl⟩
 ·obtain⟨rfl,rfl⟩:=read_good h1 h2 ho he k2
  rcases k3 with ⟨_,rfl,rfl⟩ | ⟨hb,_⟩
  ·exact⟨rfl,rfl⟩
  ·cases hb
 ·rcases k3 with ⟨hb,_⟩ | ⟨_,rfl,rfl⟩
  ·obtain⟨g1,g2,g3⟩:=k1 hb
   exact absurd ⟨g2,g3⟩ (read_bad h2 hno g1)
  ·exact⟨rfl,rfl⟩
theorem tc_wf {l:List UInt8} {T:Cm} (h:TC l T):WfC T:=by obtain⟨h1,r,h2,_⟩:=h;exact⟨⟨h1.1,h1.2.1⟩,h2.wf⟩
theorem tg_wf {l:List UInt8} {T:Tg} (h:TG l T):Wf T:=⟨h.1.1,h.1.2.1⟩
theorem same_c {l:List UInt8} {er er':Int} {ids ids':List (List Int)} (h:LPc l er ids) (h':LDc l er' ids'):er'=er/\ids'=ids:=by
 obtain⟨T,h1,h3⟩:=h
 obtain⟨t,b,k0,k1,k2,k3⟩:=h'
 rcases h3 with ⟨⟨ho,he⟩,rfl,rfl⟩ | ⟨hno,rfl,rfl⟩
 ·have hb:=k2 T (tc_wf h1) ho he
  subst hb
  obtain⟨g1,g2⟩:=k1 rfl
  have htT:=cm_back t T k0 g1 (by rw[g2];exact h1)
  rcases k3 with ⟨_,rfl,rfl⟩ | ⟨hb,_⟩
  ·exact⟨rfl,by rw[htT]⟩
  ·cases hb
 ·rcases k3 with ⟨hb,_⟩ | ⟨_,rfl,rfl⟩
  ·obtain⟨g1,g2⟩:=k1 hb
   have htT:=cm_back t T k0 g1 (by rw[g2];exact h1)
   rw[htT] at hno
   exact absurd ⟨g1,g2⟩ hno
  ·exact⟨rfl,rfl⟩
theorem same_g {l:List UInt8} {er er':Int} {ids ids':List (List Int)} (h:LPg l er ids) (h':LDg l er' ids'):er'=er/\ids'=ids:=by
 obtain⟨T,h1,h3⟩:=h
 obtain⟨t,b,k0,k1,k2,k3⟩:=h'
 rcases h3 with ⟨⟨ho,he⟩,rfl,rfl⟩ | ⟨hno,rfl,rfl⟩
 ·have hb:=k2 T (tg_wf h1) ho he
  subst hb
  obtain⟨g1,g2⟩:=k1 rfl
  have htT:=tg_back t T k0.1 k0.2 g1 (by rw[g2];exact h1)
  rcases k3 with ⟨_,rfl,rfl⟩ | ⟨hb,_⟩
  ·exact⟨rfl,by rw[htT]⟩
  ·cases hb
 ·rcases k3 with ⟨hb,_⟩ | ⟨_,rfl,rfl⟩
  ·obtain⟨g1,g2⟩:=k1 hb
   have htT:=tg_back t T k0.1 k0.2 g1 (by rw[g2];exact h1)
   rw[htT] at hno
   exact absurd ⟨g1,g2⟩ hno
  ·exact⟨rfl,rfl⟩
def LP (k:Int) (n:Nat) (l:List UInt8) (er:Int) (ids:List (List Int)):Prop :=
 (yj k n ≠ 0/\er=yj k n/\ids=[]) ∨ (yj k n=0/\((k=3/\er=0/\ids=[]) ∨ (k=2/\LPt l er ids) ∨ (k=1/\LPc l er ids) ∨ (k=4/\LPg l er ids)))
def LD (k:Int) (n:Nat) (l:List UInt8) (er:Int) (ids:List (List Int)):Prop :=
 (yj k n ≠ 0/\er=yj k n/\ids=[]) ∨ (yj k n=0/\((k=3/\er=0/\ids=[]) ∨ (k=2/\LDt l er ids) ∨ (k=1/\LDc l er ids) ∨ (k=4/\LDg l er ids)))
theorem same_lk {k:Int} {n:Nat} {l:List UInt8} {er er':Int} {ids ids':List (List Int)} (h:LP k n l er ids) (h':LD k n l er' ids'):er'=er/\ids'=ids:=by
 rcases h with ⟨h0,rfl,rfl⟩ | ⟨h0,h⟩
 ·rcases h' with ⟨_,rfl,rfl⟩ | ⟨h1,_⟩
  ·exact⟨rfl,rfl⟩
  ·exact absurd h1 h0
 ·rcases h' with ⟨h1,_⟩ | ⟨_,h'⟩
  ·exact absurd h0 h1
  ·rcases h with ⟨rfl,rfl,rfl⟩ | ⟨rfl,h⟩ | ⟨rfl,h⟩ | ⟨rfl,h⟩ <;> rcases h' with ⟨h2,h3,h4⟩ | ⟨h2,h3⟩ | ⟨h2,h3⟩ | ⟨h2,h3⟩ <;> first
    | exact⟨h3,h4⟩
    | exact same_t h h3
    | exact same_c h h3
    | exact same_g h h3
    | (exfalso;omega)
theorem kind_of {k:Int} {n:Nat} (h:yj k n=0):k=1 ∨ k=2 ∨ k=3 ∨ k=4:=by
 by_cases h1:k=1
 ·exact .inl h1
 by_cases h2:k=2
 ·exact .inr (.inl h2)
 by_cases h3:k=3
 ·exact .inr (.inr (.inl h3))
 by_cases h4:k=4
 ·exact .inr (.inr (.inr h4))
 exfalso
 have e:kN k=⟨#[]⟩:=by
  unfold kN
  rw[if_neg (by simpa using h1),if_neg (by simpa using h2),if_neg (by simpa using h3),if_neg (by simpa using h4)]
 unfold yj at h
 rw[e,if_pos (by rw[Lib.toList_data];rfl)] at h
 exact absurd h (by decide)
theorem Sl.from {w:World} {a:Option Addr} {cap:Nat} {l:List Int} (h:Sl w a cap l) (j:Nat) (hj:j<=l.length) (h0:0<l.length):Sl w (if cap=j then a else a.map (fun x=>x.add j)) (cap-j) (l.drop j):=by
 obtain⟨b,off,rfl,e2,e3⟩:=h.at_ h0
 have hc:=h.capl
 refine⟨by rw[List.length_drop];omega,fun h1=>?_,fun e=>by split at e <;> cases e⟩
 rw[List.length_drop] at h1
 rw[if_neg (by omega)]
 refine⟨b,off+j,by rw[Option.map_some,qz],e2,fun i hi=>?_⟩
 rw[List.length_drop] at hi
 rw[Nat.add_assoc,e3 (j+i) (by omega)]
 simp[List.getD_eq_getElem?_getD,List.getElem?_drop]
end Go.Proofs.YticgindfipobiaaGreatDoor
