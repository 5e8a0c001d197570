import Derived.Shelf.SlLaysF0
import Derived.Test.YticgindfipobiaaGreatDoorProg
import Derived.Test.YticgindfipobiaaGreatDoorMn43
import Derived.Shelf.SlSortCmp.NoneTotal
import Derived.Test.YticgindfipobiaaGreatDoorMn44
import Derived.OwnWalk
set_option linter.unusedSectionVars false
set_option linter.unusedSimpArgs false
set_option linter.unusedVariables false
set_option maxRecDepth 20000
set_option maxHeartbeats 4000000
namespace Go.Proofs
open Go.Shelf
def Tryz.sortI_ren:Go.Shelf.Ren:=⟨fun | 6=>45 | 15=>65 | 14=>64 | 28=>95 | 29=>96 | 20=>87 | 21=>88 | 22=>89 | 23=>90 | 24=>91 | 25=>92 | 26=>93 | 27=>94 | 46=>130 | 47=>131 | 48=>132 | 49=>133 | 50=>134 | 57=>165 | n=>n,fun | 22=>23 | 24=>56 | 25=>83 | 3=>3 | 39=>142 | 0=>0 | 53=>63 | 55=>62 | 4=>4 | 46=>198 | 45=>197 | 50=>74 | 5=>5 | 9=>9 | 66=>241 | 70=>245 | 76=>271 | 77=>272 | n=>n,fun | n=>n⟩
theorem Tryz.sortI:Go.Proofs.SlLaysF0.n6 Tryz.prog Tryz.sortI_ren:={
 mixed:=by kernel_rfl
 f6:=⟨Tryz.f45.name,by decide,Tryz.func45.trans (congrArg some (by kernel_rfl))⟩
 f14:=⟨Tryz.f64.name,by decide,Tryz.func64.trans (congrArg some (by kernel_rfl))⟩
 f15:=Tryz.func65.trans (congrArg some (by kernel_rfl))
 f20:=⟨Tryz.f87.name,by decide,Tryz.func87.trans (congrArg some (by kernel_rfl))⟩
 f21:=⟨Tryz.f88.name,by decide,Tryz.func88.trans (congrArg some (by kernel_rfl))⟩
 f22:=⟨Tryz.f89.name,by decide,Tryz.func89.trans (congrArg some (by kernel_rfl))⟩
 f23:=⟨Tryz.f90.name,by decide,Tryz.func90.trans (congrArg some (by kernel_rfl))⟩
 f24:=⟨Tryz.f91.name,by decide,Tryz.func91.trans (congrArg some (by kernel_rfl))⟩
 f25:=⟨Tryz.f92.name,by decide,Tryz.func92.trans (congrArg some (by kernel_rfl))⟩
 f26:=⟨Tryz.f93.name,by decide,Tryz.func93.trans (congrArg some (by kernel_rfl))⟩
 f27:=⟨Tryz.f94.name,by decide,Tryz.func94.trans (congrArg some (by kernel_rfl))⟩
 f28:=Tryz.func95.trans (congrArg some (by kernel_rfl))
 f29:=Tryz.func96.trans (congrArg some (by kernel_rfl))
 f46:=⟨Tryz.f130.name,by decide,Tryz.func130.trans (congrArg some (by kernel_rfl))⟩
 f47:=Tryz.func131.trans (congrArg some (by kernel_rfl))
 f48:=Tryz.func132.trans (congrArg some (by kernel_rfl))
 f49:=⟨Tryz.f133.name,by decide,Tryz.func133.trans (congrArg some (by kernel_rfl))⟩
 f50:=⟨Tryz.f134.name,by decide,Tryz.func134.trans (congrArg some (by kernel_rfl))⟩
 f57:=⟨Tryz.f165.name,by decide,Tryz.func165.trans (congrArg some (by kernel_rfl))⟩
 t0:=Tryz.underlying0
 a0:=Tryz.isAgg0
 z0:=Tryz.sizeOf0
 v0:=Tryz.zeroValue0
 t3:=Tryz.underlying3
 a3:=Tryz.isAgg3
 z3:=Tryz.sizeOf3
 v3:=Tryz.zeroValue3
 t4:=Tryz.underlying4
 a4:=Tryz.isAgg4
 z4:=Tryz.sizeOf4
 v4:=Tryz.zeroValue4
 t5:=Tryz.underlying5
 a5:=Tryz.isAgg5
 z5:=Tryz.sizeOf5
 v5:=Tryz.zeroValue5
 t9:=Tryz.underlying9
 a9:=Tryz.isAgg9
 z9:=Tryz.sizeOf9
 v9:=Tryz.zeroValue9
 t22:=Tryz.underlying23
 a22:=Tryz.isAgg23
 z22:=Tryz.sizeOf23
 v22:=Tryz.zeroValue23
 t25:=Tryz.underlying83
 a25:=Tryz.isAgg83
 z25:=Tryz.sizeOf83
 v25:=Tryz.zeroValue83
 t39:=Tryz.underlying142
 a39:=Tryz.isAgg142
 z39:=Tryz.sizeOf142
 v39:=Tryz.zeroValue142
 t45:=Tryz.underlying197
 a45:=Tryz.isAgg197
 z45:=Tryz.sizeOf197
 v45:=Tryz.zeroValue197
 t46:=Tryz.underlying198
 a46:=Tryz.isAgg198
 z46:=Tryz.sizeOf198
 v46:=Tryz.zeroValue198
 t50:=Tryz.underlying74
 a50:=Tryz.isAgg74
 z50:=Tryz.sizeOf74
 v50:=Tryz.zeroValue74
 t53:=Tryz.underlying63
 a53:=Tryz.isAgg63
 z53:=Tryz.sizeOf63
 v53:=Tryz.zeroValue63
 t55:=Tryz.underlying62
 a55:=Tryz.isAgg62
 z55:=Tryz.sizeOf62
 v55:=Tryz.zeroValue62
 t66:=Tryz.underlying241
 a66:=Tryz.isAgg241
 z66:=Tryz.sizeOf241
 v66:=Tryz.zeroValue241
 t70:=Tryz.underlying245
 a70:=Tryz.isAgg245
 z70:=Tryz.sizeOf245
 v70:=Tryz.zeroValue245
 t76:=Tryz.underlying271
 a76:=Tryz.isAgg271
 z76:=Tryz.sizeOf271
 v76:=Tryz.zeroValue271
 t77:=Tryz.underlying272
 a77:=Tryz.isAgg272
 z77:=Tryz.sizeOf272
 v77:=Tryz.zeroValue272 }
end Go.Proofs
namespace Go.Proofs.YticgindfipobiaaGreatDoor.Gr
open Go.RowKit Go.Shelf
theorem vy.two (w:World) (a b:Obj):vy w ((w.alloc a).alloc b).drew:=⟨1,#[a,b],by
 rw[Sort.alloc_eq_grow,Sort.alloc_eq_grow]
 unfold Sort.grow World.drew World.drewN
 simp
 apply Array.ext'
 simp⟩
set_option maxHeartbeats 1000000 in
theorem compareIDs_grew (x y:List Int) (hx:x.length=20) (hy:y.length=20) (w:World) :
  Calls Tryz.prog 27 #[.agg (row .u8 x).toArray,.agg (row .u8 y).toArray] w fun e w'=>e=.returned (.int .i64 (cmpI x y))/\vy w w':=by
 obtain⟨g,HG⟩:=nn_ w.heap.size
 obtain⟨X,HX⟩:=nm_ (row .u8 x)
 obtain⟨Y,HY⟩:=nm_ (row .u8 y)
 obtain⟨w0,HW0⟩:=nn_ ((w.alloc (Obj.cells X.toArray 56)).alloc (Obj.cells Y.toArray 56))
 have HGW:Hid (vy w w0.drew):=hid (by rw[HW0.out];exact vy.two w _ _)
 have HT:Hid (Two g (g+1) X Y 56 w0.drew):=hid (by
  rw[HW0.out,HG.out]
  constructor
  ·show ((w.heap.push _).push _)[w.heap.size]? = _
   rw[Array.getElem?_push,if_neg (by simp),Array.getElem?_push,if_pos rfl]
  ·show ((w.heap.push _).push _)[w.heap.size+1]? = _
   rw[Array.getElem?_push,if_pos (by simp)])
 obtain⟨r,HR⟩:=nm_ (cmpI x y)
 have HC:Hid (∀ W,Two g (g+1) X Y 56 W->Calls Tryz.prog 47 #[.slice (some ⟨g,0,none⟩) 20 20,.slice (some ⟨g+1,0,none⟩) 20 20] W fun e w'=>e=.returned (.int .i64 r)/\w'=W):=fun W hW=>by
  have:=Y7 (some ⟨g,0,none⟩) (some ⟨g+1,0,none⟩) 20 20 x y W (id_sl (by rw[HX.out];exact hW.x) hx) (id_sl (by rw[HY.out];exact hW.y) hy)
  rw[hx,hy] at this
  rw[<-HR.out]
  exact this
 rw[HX.out,HY.out,HR.out]
 clear hx hy
 go_enter Tryz.func27,Tryz.ntmps27
 go_wp2_with fail
 rw[<-HG.out,<-HW0.out]
 refine wp_region_held_drew (S:=Two g (g+1) X Y 56) (by kernel_rfl) (by exact HT.out) (fun hHeld=>?_)
 generalize w0.drew=wd at hHeld HGW HT ⊢
 refine tZ (i:=0) hHeld ?_
 try simp only[Act.put,sL]
 refine tZ (i:=1) hHeld ?_
 try simp only[Act.put,sL]
 refine wpAnyH_ready (rs:=[2]) (by kernel_rfl) (by simp) ?_
 refine zu rfl (fun KK hKK=>?_) AllReadyH.nil
 refine zk (by rfl) 47 [.tmp 5,.tmp 6] _ [.slice (some ⟨g,0,none⟩) 20 20,.slice (some ⟨g+1,0,none⟩) 20 20] _ (by rfl) (by rfl) (ZW _ _) (HC.out _ hHeld) ?_
 rintro e w1 ⟨rfl,rfl⟩
 refine⟨_,rfl,?_⟩
 refine hKK.out _ _ hHeld (fun hHeld2=>?_)
 clear hKK KK
 try simp only[Act.put,sL]
 refine tZ (i:=3) hHeld ?_
 try simp only[Act.put,sL]
 refine wpAnyH_done (by kernel_rfl) ?_ _
 go_wp2
 go_ret
 exact⟨rfl,HGW.out⟩
abbrev In:={ x:List Int // IdW x }
variable [Inhabited In]
def vk (x:In):List Value:=row .u8 x.1
def cfN (x y:In):Int:=cmpI x.1 y.1
theorem ltN (x y:In):ltOf cfN x y=decide (Lib.bytesOf x.1<Lib.bytesOf y.1):=by
 unfold ltOf cfN cmpI
 exact decide_eq_decide.2 (cb_iff _ _)
theorem swoN:Sort.SWO (ltOf cfN) where
 irrefl x:=by rw[ltN];exact decide_eq_false (uK _)
 trans x y z h1 h2:=by
  rw[ltN] at *
  exact decide_eq_true (jw _ _ _ (of_decide_eq_true h1) (of_decide_eq_true h2))
 ntrans x y z h1 h2:=by
  rw[ltN] at *
  exact decide_eq_false (XZ _ _ _ (of_decide_eq_false h1) (of_decide_eq_false h2))
theorem cmpLays60 (blk off size:Nat) (w:World):CmpLays Tryz.prog 27 #[] vk 20 cfN blk off size w:=fun m os dk _ x y=>by
 have:=compareIDs_grew x.1 y.1 x.2.1 y.2.1 (sortWorldK vk 20 w blk off m dk os)
 exact this
theorem enters60:∀ args w,(callFunc 27 args).run Tryz.prog w=.ok (.enter 27 args) w:=enters_of Tryz.func27 (by kernel_rfl) rfl
theorem encN_len (x:In):(vk x).length=20:=by unfold vk;rw[zq];exact x.2.1
theorem sort_any (blk off cap:Nat) (d:Array In) (w:World) (hH:Sort.HoldsK vk 20 w blk off d) (hblk:blk<w.heap.size) (hsz:d.size<=1000) :
  Calls Tryz.prog 45 #[.slice (some ⟨blk,off,none⟩) d.size cap,.func (.func 27) #[] #[]] w fun e w'=>e=.returned (.tuple #[])/\∃ d' n os,Sort.PermIn 0 d.size d d'/\Sort.SortedIn (ltOf cfN) 0 d.size d'/\w'=sortWorldK vk 20 w blk off n d' os :=
 AnyQ.slices_SortFunc Tryz.sortI 20 Tryz.isAgg56 Tryz.sizeOf56 vk encN_len (fun x=>zV _ x.1) cfN swoN 27 #[] blk off cap d w enters60 (cmpLays60 blk off d.size w) hH hblk (by omega)
theorem sort_none (p:Option Addr) (cap:Nat) (fv:Value) (w:World):Calls Tryz.prog 45 #[.slice p 0 cap,fv] w fun e w'=>e=.returned (.tuple #[])/\w'=w :=
 AnyF.slices_SortFunc_none Tryz.sortI p cap fv w
def WfN (es:List (List Int)):Prop := ∀ x ∈ es,IdW x
theorem WfN.tail {x:List Int} {es:List (List Int)} (h:WfN (x :: es)):WfN es:=fun y hy=>h y (by simp[hy])
def toN:(es:List (List Int))->WfN es->List In
 | [],_=>[]
 | x :: es,h=>⟨x,h x (by simp)⟩ :: toN es h.tail
theorem jk:∀ (es:List (List Int)) (h:WfN es),(toN es h).map (·.1)=es
 | [],_=>rfl
 | x :: es,h=>congrArg (x :: ·) (jk es h.tail)
theorem uu (es:List (List Int)) (h:WfN es):(toN es h).length=es.length:=by
 have:=congrArg List.length (jk es h)
 rwa [List.length_map] at this
theorem toN_at (es:List (List Int)) (h:WfN es) (i:Nat) (hi:i<es.length):((toN es h).toArray[i]!).1=es.getD i []:=by
 have hi':i<(toN es h).length:=by rw[uu];exact hi
 have h1:(toN es h).toArray[i]! = (toN es h)[i]:=by simp[hi']
 rw[h1]
 have h2:((toN es h).map (·.1))[i]? = some ((toN es h)[i]).1:=by simp[hi']
 rw[jk] at h2
 rw[List.getD_eq_getElem?_getD,h2]
 rfl
theorem Zy {w:World} {B g n cap:Nat} {es:List (List Int)} (hw:WfN es) (hn:es.length=n) (h:w.ownsRow B 56 20 (.slice (some ⟨g,0,none⟩) n cap) n (fI es)):Sort.HoldsK vk 20 w g 0 (toN es hw).toArray:=by
 intro j hj
 rw[Sort.size_flatK,List.size_toArray,uu,hn] at hj
 rw[Sort.get_flatK _ _ _ _ (by rw[List.size_toArray,uu,hn];exact hj),Nat.zero_add]
 refine⟨?_,h.frozenAt j⟩
 rw[h.cellAt j hj]
 have hd:j / 20<es.length:=by rw[hn];exact Nat.div_lt_of_lt_mul (by omega)
 have hm:j % 20<20:=Nat.mod_lt _ (by omega)
 have e:j / 20*20+j % 20=j:=by omega
 have:=fX_at (enc:=row .u8) (k:=20) (d:=[]) es (fun x hx=>by rw[zq];exact(hw x hx).1) (j / 20) (j % 20) hd hm
 rw[e] at this
 unfold fI
 rw[this]
 show _=some ((row .u8 ((toN es hw).toArray[j / 20]!).1)[j % 20]!)
 rw[toN_at es hw _ hd]
 have hmem:es.getD (j / 20) [] ∈ es:=yK es _ _ hd
 have hl:(row .u8 (es.getD (j / 20) [])).length=20:=by rw[zq];exact(hw _ hmem).1
 rw[List.getElem?_eq_getElem (by omega),getElem!_pos _ _ (by omega)]
theorem Yz (w:World) (g m:Nat) (d:Array In) (os:Array Obj) (k:Nat) (hk:k<w.heap.size) (hg:k ≠ g):(sortWorldK vk 20 w g 0 m d os).heap[k]? = w.heap[k]? := by
 show ((w.heap.modify g _)++os)[k]? = _
 rw[Array.getElem?_append_left (by simpa using hk)]
 simp[Array.getElem?_modify,Ne.symm hg]
theorem Yq {B:Nat} {w0 w:World} (hb:Below B w0 w) (hB:B<=w0.heap.size) (g m:Nat) (d:Array In) (os:Array Obj) (hg:B<=g):Below B w0 (sortWorldK vk 20 w g 0 m d os) :=
 hb.trans ⟨rfl,rfl,rfl,by show _<=((w.heap.modify g _)++os).size;simp,fun k hk=>Yz w g m d os k (by have:=hb.size;omega) (by omega)⟩
theorem Yx {B g n cap:Nat} {w0 w:World} {es:List (List Int)} (hw:WfN es) (hn:es.length=n) (h:w.ownsRow B 56 20 (.slice (some ⟨g,0,none⟩) n cap) n (fI es)) (d':Array In) (m:Nat) (os:Array Obj)
  (hp:Sort.PermIn 0 (toN es hw).toArray.size (toN es hw).toArray d') (hs:Sort.SortedIn (ltOf cfN) 0 (toN es hw).toArray.size d') :
  ((d'.toList.map (·.1)).Perm es)/\(d'.toList.map (·.1)).Pairwise (fun x y=>¬ Lib.bytesOf y<Lib.bytesOf x)/\Pa (sortWorldK vk 20 w g 0 m d' os) (some ⟨g,0,none⟩) cap (d'.toList.map (·.1)):=by
 have hsz:d'.size=(toN es hw).toArray.size:=hp.1
 have hln:d'.size=n:=by rw[hsz,List.size_toArray,uu,hn]
 have hH:=Zy hw hn h
 have hg:g<w.heap.size:=(h.lt g rfl).2
 have hcap:n<=cap:=by
  obtain⟨_,⟨h1,_⟩ | ⟨g',cap',cur,h1,_,_,h4,_⟩⟩:=h
  ·cases h1
  ·cases h1;exact h4
 refine⟨?_,?_,⟨by simp[hln,hcap],fun h0=>⟨g,0,rfl,?_,fun i hi j v hv=>?_⟩,fun h=>by cases h⟩⟩
 ·have:=hp.2.2
  rw[<-hsz,Array.extract_size,hsz,Array.extract_size] at this
  have:=this.map (·.1)
  rwa [show ((toN es hw).toArray.toList).map (·.1)=es from jk es hw] at this
 ·rw[List.pairwise_iff_getElem]
  intro i j hi hj hij
  simp only[List.length_map,Array.length_toList] at hi hj
  have:=hs i j (Nat.zero_le _) hij (by rw[<-hsz];exact hj)
  rw[ltN,getElem!_pos d' j hj,getElem!_pos d' i hi] at this
  simpa using of_decide_eq_false this
 ·show g<((w.heap.modify g _)++os).size
  simp;omega
 ·have hi':i<d'.size:=by simpa using hi
  have hK:Sort.HoldsK vk 20 (sortWorldK vk 20 w g 0 m d' os) g 0 d' :=
   Sort.holdsK_grow vk 20 _ os g 0 d' (by show g<(w.heap.modify g _).size;simpa using hg) (Sort.holdsK_putRowK vk 20 _ g 0 (toN es hw).toArray d' (Sort.holdsK_ahead vk 20 w m g 0 _ hH) hsz)
  have he:(d'.toList.map (·.1)).getD i []=(d'[i]!).1:=by
   rw[getElem!_pos d' i hi',List.getD_eq_getElem?_getD]
   simp[hi']
  rw[he] at hv
  have hl:(vk d'[i]!).length=20:=encN_len _
  have hj:j<20:=by
   obtain⟨h1,_⟩:=List.getElem?_eq_some_iff.1 hv
   have:(row .u8 (d'[i]!).1).length=20:=hl
   omega
  have:=(Sort.HoldsK.cell hK hi' hj).1
  rw[this]
  have hv':(vk d'[i]!)[j]? = some v:=hv
  rw[List.getElem?_eq_getElem (by omega)] at hv'
  rw[getElem!_pos _ _ (by omega)]
  exact hv'
theorem vW.perm {S:List Int->Prop} {xs ys:List (List Int)} (h:vW S xs) (hp:ys.Perm xs):vW S ys:=⟨hp.nodup_iff.2 h.one,fun y hy=>h.idw y (hp.mem_iff.1 hy),fun y hy=>by rw[hp.mem_iff];exact h.all y hy⟩
theorem k8 (Bs g ns:Nat) (S:List Int->Prop) (w:World) (hS:SI w g ns S) (hl:ns<=1000) (hbs:Boxed w Bs 49 (.map (some g))) (hfew:∀ xs,vW S xs->xs.length<=1000) :
  Calls Tryz.prog 25 #[.func (.func 46) #[] #[.pointer (some ⟨Bs,0,none⟩)],.func (.func 27) #[] #[]] w (PostSo S w):=by
 have HC:Hid (Calls Tryz.prog 44 #[.func (.func 46) #[] #[.pointer (some ⟨Bs,0,none⟩)]] w (Vv S w)):=Y9 Bs g ns S w hS hl hbs
 have HFW:Hid (∀ xs,vW S xs->xs.length<=1000):=hfew
 clear hS hbs hfew
 go_enter Tryz.func25,Tryz.ntmps25
 go_wp2_with fail
 refine HC.out.mono ?_
 rintro e w1 ⟨v,es,rfl,hx,ho,hb⟩
 obtain⟨n,HN⟩:=nm_ es.length
 have hn:n<=1000:=by rw[<-HN.out];exact HFW.out es hx
 have HX:Hid (vW S es):=hx
 have HW:Hid (WfN es):=hx.idw
 rw[HN.out] at ho
 obtain⟨a1,c1,rfl⟩:=qw ho
 have HO:Hid (w1.ownsRow w.heap.size 56 20 (.slice a1 n c1) n (fI es)):=ho
 have HB:Hid (Below w.heap.size w w1):=hb
 clear ho hb hx
 have C63:Hid (Calls Tryz.prog 45 #[.slice a1 n c1,.func (.func 27) #[] #[]] w1 fun e w'=>e=.returned (.tuple #[])/\PostSo S w (.returned (.slice a1 n c1)) w'):=hid (by
  by_cases h0:n=0
  ·have hes:es=[]:=List.length_eq_zero_iff.1 (by rw[HN.out];exact h0)
   have HO':=HO.out
   subst h0
   refine(sort_none a1 c1 _ w1).mono ?_
   rintro e w' ⟨rfl,rfl⟩
   refine⟨rfl,a1,c1,[],rfl,by have:=HX.out;rwa [hes] at this,List.Pairwise.nil,⟨Nat.zero_le _,fun h=>absurd h (by simp),fun h=>?_⟩,HB.out⟩
   obtain⟨_,⟨h1,_⟩ | ⟨g,cap',cur,h1,_⟩⟩:=HO'
   ·cases h1;rfl
   ·cases h1;cases h
  ·obtain⟨g,rfl⟩:∃ g,a1=some ⟨g,0,none⟩:=by
    obtain⟨_,⟨h1,h2⟩ | ⟨g,cap',cur,h1,_⟩⟩:=HO.out
    ·exact absurd h2 h0
    ·cases h1;exact⟨g,rfl⟩
   have hg:=HO.out.lt g rfl
   have hsz:(toN es HW.out).toArray.size=n:=by rw[List.size_toArray,uu,HN.out]
   have:=sort_any g 0 c1 (toN es HW.out).toArray w1 (Zy HW.out HN.out HO.out) hg.2 (by rw[hsz];exact hn)
   rw[hsz] at this
   refine this.mono ?_
   rintro e w' ⟨rfl,d',m,os,hp,hs,rfl⟩
   rw[<-hsz] at hp hs
   obtain⟨q1,q2,q3⟩:=Yx (w0:=w) HW.out HN.out HO.out d' m os hp hs
   exact⟨rfl,_,c1,_,by rw[q1.length_eq,HN.out],HX.out.perm q1,q2,q3,Yq HB.out (Nat.le_refl _) g m d' os hg.1⟩)
 go_wp2_with fail
 refine C63.out.mono ?_
 rintro e w2 ⟨rfl,hps⟩
 have HPS:Hid (PostSo S w (.returned (.slice a1 n c1)) w2):=hps
 clear hps
 go_wp2
 go_ret
 exact HPS.out
theorem idsorted_any (g ns:Nat) (S:List Int->Prop) (w:World) (hS:SI w g ns S) (hl:ns<=1000) (hfew:∀ xs,vW S xs->xs.length<=1000):Calls Tryz.prog 15 #[.map (some g)] w (PostSo S w):=by
 have C59:Hid (Calls Tryz.prog 26 #[.map (some g)] w fun e w'=>e=.returned (.func (.func 46) #[] #[.pointer (some ⟨w.heap.size,0,none⟩)])/\w'=w.alloc (.cells #[.map (some g)] 49)):=keys_call g w
 obtain⟨w1,HW1⟩:=nm_ (w.alloc (.cells #[.map (some g)] 49))
 have hb1:Below w.heap.size w w1:=by rw[<-HW1.out];exact(Below.refl _ w).alloc (Nat.le_refl _) _
 have HB1:Hid (Below w.heap.size w w1):=hb1
 have C58:Hid (Calls Tryz.prog 25 #[.func (.func 46) #[] #[.pointer (some ⟨w.heap.size,0,none⟩)],.func (.func 27) #[] #[]] w1 (PostSo S w1)):=hid (k8 w.heap.size g ns S w1 (hS.below hb1) hl (by rw[<-HW1.out];exact heap_alloc_new w _) hfew)
 rw[HW1.out] at C59
 clear hS hb1 hfew
 go_enter Tryz.func15,Tryz.ntmps15
 go_wp2_with fail
 refine C59.out.mono ?_
 rintro e w2 ⟨rfl,rfl⟩
 go_wp2_with fail
 refine C58.out.mono ?_
 rintro e w3 ⟨a,cap,xs,rfl,h1,h2,h3,h4⟩
 have H1:Hid (vW S xs):=h1
 have H2:Hid (xs.Pairwise (fun x y=>¬ Lib.bytesOf y<Lib.bytesOf x)):=h2
 have H3:Hid (Pa w3 a cap xs):=h3
 have H4:Hid (Below w.heap.size w w3):=hid (HB1.out.trans (h4.mono HB1.out.size))
 clear h1 h2 h3 h4
 go_wp2
 go_ret
 exact⟨a,cap,xs,rfl,H1.out,H2.out,H3.out,H4.out⟩
end Go.Proofs.YticgindfipobiaaGreatDoor.Gr
namespace Go.Proofs.YticgindfipobiaaGreatDoor.Gr
open Go.RowKit
structure QS (b o c p:Nat) (X Y:List Value) (W:World):Prop where
 r0:W.rangeAt b o X
 r1:W.rangeAt c p Y
set_option maxHeartbeats 1000000 in
theorem same_any {w:World} (xa:Option Addr) (xc:Nat) (X:List (List Int)) (hX:Pa w xa xc X) (hxi:∀ y ∈ X,IdW y) (ya:Option Addr) (yc:Nat) (Y:List (List Int)) (hY:Pa w ya yc Y) (hyi:∀ y ∈ Y,IdW y) (hxl:X.length<=100000) (hyl:Y.length<=100000) :
  Calls Tryz.prog 8 #[.slice xa X.length xc,.slice ya Y.length yc] w fun e w'=>BI (X=Y) e/\Below w.heap.size w w':=by
 obtain⟨nx,HNX⟩:=nm_ X.length
 obtain⟨ny,HNY⟩:=nm_ Y.length
 obtain⟨G,HG⟩:=nm_ w.heap.size
 have hnxb:nx<=100000:=by rw[<-HNX.out];exact hxl
 have hnyb:ny<=100000:=by rw[<-HNY.out];exact hyl
 have HXA:Hid (∀ W,Below G w W->Pa W xa xc X):=fun W hW=>hX.below (by rw[HG.out];exact hW)
 have HYA:Hid (∀ W,Below G w W->Pa W ya yc Y):=fun W hW=>hY.below (by rw[HG.out];exact hW)
 have HXI:Hid (∀ y ∈ X,IdW y):=hxi
 have HYI:Hid (∀ y ∈ Y,IdW y):=hyi
 have HPX:Hid (0<nx->∃ b off,xa=some ⟨b,off,none⟩):=fun h0=>by
  obtain⟨b,off,e1,_⟩:=hX.at_ (by rw[HNX.out];exact h0)
  exact⟨b,off,e1⟩
 have HPY:Hid (0<ny->∃ b off,ya=some ⟨b,off,none⟩):=fun h0=>by
  obtain⟨b,off,e1,_⟩:=hY.at_ (by rw[HNY.out];exact h0)
  exact⟨b,off,e1⟩
 rw[HNX.out,HNY.out]
 clear hX hY hxi hyi hxl hyl
 by_cases hne:nx=ny
 ·subst hne
  go_enter Tryz.func8,Tryz.ntmps8
  go_wp2_with fail
  go_loopg [5] nx (fun gg iv wr=>∃ i:Nat,i<=nx/\gg=nx-i/\iv=.int .i64 i/\Hid (Below G w wr)/\Hid (X.take i=Y.take i))
  case atStart=>exact⟨0,Nat.zero_le _,rfl,rfl,hid (Below.refl _ _),hid (by simp)⟩
  case round =>
   obtain⟨i,hi,hk,rfl,HB,HA⟩:=hrel
   by_cases hlt:i<nx
   ·have hlti:(i:Int)<(nx:Int):=by omega
    obtain⟨b,off,hae⟩:=HPX.out (by omega)
    subst hae
    obtain⟨c,ofc,hce⟩:=HPY.out (by omega)
    subst hce
    obtain⟨x,HX⟩:=nm_ (X.getD i [])
    obtain⟨y,HY⟩:=nm_ (Y.getD i [])
    have HXW:Hid (IdW x):=hid (HXI.out x (by rw[<-HX.out];exact yK X i _ (by rw[HNX.out];exact hlt)))
    have HYW:Hid (IdW y):=hid (HYI.out y (by rw[<-HY.out];exact yK Y i _ (by rw[HNY.out];exact hlt)))
    obtain⟨RX,HRX⟩:=nm_ (row .u8 x)
    obtain⟨RY,HRY⟩:=nm_ (row .u8 y)
    have hiX:(Tryz.prog.info? 56).map (·.size)=some RX.length:=by rw[<-HRX.out,zq,HXW.out.1];exact Tryz.size56
    have hiY:(Tryz.prog.info? 31).map (·.size)=some RY.length:=by rw[<-HRY.out,zq,HYW.out.1];exact Tryz.size31
    have HBd:Hid (Below G w wr.drew):=hid (zJ HB.out 1)
    have hSd:QS b (off+i*20) c (ofc+i*20) RX RY wr.drew:=⟨by
      obtain⟨b',off',e1,_,e3⟩:=(HXA.out _ HBd.out).at_ (by rw[HNX.out];omega)
      cases e1
      have:=e3 i (by rw[HNX.out];exact hlt)
      rw[HX.out,HRX.out] at this
      exact this,by
      obtain⟨b',off',e1,_,e3⟩:=(HYA.out _ HBd.out).at_ (by rw[HNY.out];omega)
      cases e1
      have:=e3 i (by rw[HNY.out];exact hlt)
      rw[HY.out,HRY.out] at this
      exact this⟩
    have HEQ:Hid (∀ W:World,(Op.equalIn 10000 56 (.agg RX.toArray) (.agg RY.toArray)).run Tryz.prog W=.ok (decide (x=y)) W):=fun W=>by rw[<-HRX.out,<-HRY.out];exact eq42 x y HXW.out.1 HYW.out.1 W
    have HTX:Hid (X.take (i+1)=X.take i++[x]):=hid (by rw[xW [] X i (by rw[HNX.out];exact hlt),HX.out])
    have HTY:Hid (Y.take (i+1)=Y.take i++[y]):=hid (by rw[xW [] Y i (by rw[HNY.out];exact hlt),HY.out])
    go_wp2_with fail
    refine wp_region_held_drew (S:=QS b (off+i*20) c (ofc+i*20) RX RY) (by kernel_rfl) hSd (fun hHeld=>?_)
    clear hSd
    generalize wr.drew=u0 at hHeld HBd ⊢
    refine tZ (i:=0) hHeld ?_
    try simp only[Act.put,sL]
    refine tZ (i:=1) hHeld ?_
    try simp only[Act.put,sL]
    refine tZ (i:=2) hHeld ?_
    try simp only[Act.put,sL]
    refine tW (i:=3) (v:=.agg RX.toArray) hHeld rfl (yieldsIf_load_mid (by kernel_rfl) 56 _ rfl b (off+i*20) (by rfl) RX _ (fun w' h=>h.r0) Tryz.underlying56 rfl hiX) ?_
    try simp only[Act.put,sL]
    refine tZ (i:=4) hHeld ?_
    try simp only[Act.put,sL]
    refine tZ (i:=5) hHeld ?_
    try simp only[Act.put,sL]
    refine tZ (i:=6) hHeld ?_
    try simp only[Act.put,sL]
    refine tW (i:=7) (v:=.agg RY.toArray) hHeld rfl (yieldsIf_load_mid (by kernel_rfl) 31 _ rfl c (ofc+i*20) (by rfl) RY _ (fun w' h=>h.r1) Tryz.underlying31 rfl hiY) ?_
    try simp only[Act.put,sL]
    by_cases hxy:x=y
    ·have heq:∀ W:World,(Op.equalIn 10000 56 (.agg RX.toArray) (.agg RY.toArray)).run Tryz.prog W=.ok true W:=fun W=>by rw[HEQ.out W,decide_eq_true hxy]
     have HA2:Hid (X.take (i+1)=Y.take (i+1)):=hid (by rw[HTX.out,HTY.out,HA.out,hxy])
     refine tV (i:=8) (v:=.bool false) hHeld ?_
     try simp only[Act.put,sL]
     refine wpAnyH_done (by kernel_rfl) ?_ _
     clear hHeld heq
     go_wp2
     go_roundg (nx-(i+1))
     case measure=>omega
     case rel=>exact⟨i+1,by omega,rfl,by go_num,HBd,HA2⟩
    ·have heq:∀ W:World,(Op.equalIn 10000 56 (.agg RX.toArray) (.agg RY.toArray)).run Tryz.prog W=.ok false W:=fun W=>by rw[HEQ.out W,decide_eq_false hxy]
     have HNE:Hid (¬ X=Y):=hid (fun e=>hxy (by rw[<-HX.out,<-HY.out,e]))
     refine tV (i:=8) (v:=.bool true) hHeld ?_
     try simp only[Act.put,sL]
     refine wpAnyH_done (by kernel_rfl) ?_ _
     clear hHeld heq
     go_wp2
     go_ret
     exact⟨⟨false,⟨fun h=>(by cases h),fun h=>absurd h HNE.out⟩,rfl⟩,by rw[HG.out];exact HBd.out⟩
   ·have hlti:¬ (i:Int)<(nx:Int):=by omega
    have HEQ:Hid (X=Y):=hid (by
     have:=HA.out
     rw[List.take_of_length_le (by rw[HNX.out];omega),List.take_of_length_le (by rw[HNY.out];omega)] at this
     exact this)
    go_wp2
    go_ret
    exact⟨⟨true,⟨fun _=>HEQ.out,fun _=>rfl⟩,rfl⟩,by rw[HG.out];exact HB.out⟩
 ·have hnei:¬ (nx:Int)=(ny:Int):=by omega
  have hneb:((nx:Int) == (ny:Int))=false:=by rw[beq_eq_false_iff_ne];exact hnei
  have HNE:Hid (¬ X=Y):=hid (fun e=>hne (by rw[<-HNX.out,<-HNY.out,e]))
  go_enter Tryz.func8,Tryz.ntmps8
  go_wp2
  go_ret
  exact⟨⟨false,⟨fun h=>(by cases h),fun h=>absurd h HNE.out⟩,rfl⟩,by exact Below.refl _ _⟩
end Go.Proofs.YticgindfipobiaaGreatDoor.Gr
