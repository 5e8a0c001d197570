import Derived.Test.YtcicoeneemnbiaaGreatDoorMw16
import Derived.Test.YtcicoeneemnbiaaGreatDoorMw12
import Derived.Test.YtcicoeneemnbiaaGreatDoorMw07
namespace Go.Proofs.YtcicoeneemnbiaaGreatDoor
open Go.RowKit Go.Shelf
variable [Inhabited En]
set_option linter.unusedVariables false
set_option linter.unusedSectionVars false
set_option linter.unusedSimpArgs false
theorem values_call (a : Option Addr) (n cap : Nat) (w : World) : Calls Tryz.prog 26 #[.slice a n cap] w fun e w' => e = .returned (.func (.func 48) #[] #[.pointer (some ⟨w.heap.size, 0, none⟩)]) ∧ w' = w.alloc (.cells #[.slice a n cap] 22) := by
  go_enter Tryz.func26, Tryz.ntmps26
  go_wp2
  go_ret
  exact ⟨rfl, rfl⟩
theorem collect_any (Bs : Nat) (a : Option Addr) (cap : Nat) (es : List Ey) (w : World) (hwf : WY es) (hP : PY w a cap es) (hl : es.length ≤ 1000) (hbs : Boxed w Bs 22 (.slice a es.length cap)) :
    Calls Tryz.prog 46 #[.func (.func 48) #[] #[.pointer (some ⟨Bs, 0, none⟩)]] w (PostK w es) := by
  have HC : Hid (Calls Tryz.prog 64 #[.slice none 0 0, .func (.func 48) #[] #[.pointer (some ⟨Bs, 0, none⟩)]] w (PostK w es)) := appendSeq_any Bs a cap es w hwf hP hl hbs
  clear hwf hP hbs
  go_enter Tryz.func46, Tryz.ntmps46
  go_wp2_with fail
  refine HC.out.mono ?_
  rintro e w1 ⟨v, rfl, ho, hb⟩
  have HO : Hid (w1.ownsRow w.heap.size 32 24 v es.length (fE es)) := ho
  have HB : Hid (Below w.heap.size w w1) := hb
  clear ho hb
  go_wp2
  go_ret
  exact ⟨v, rfl, HO.out, HB.out⟩
theorem WY.tail {x : Ey} {es : List Ey} (h : WY (x :: es)) : WY es := fun y hy => h y (by simp [hy])
def toN : (es : List Ey) → WY es → List En
  | [], _ => []
  | x :: es, h => ⟨x, h x (by simp)⟩ :: toN es h.tail
theorem toN_val : ∀ (es : List Ey) (h : WY es), (toN es h).map (·.1) = es
  | [], _ => rfl
  | x :: es, h => congrArg (x :: ·) (toN_val es h.tail)
theorem toN_len (es : List Ey) (h : WY es) : (toN es h).length = es.length := by
  have := congrArg List.length (toN_val es h)
  rwa [List.length_map] at this
theorem toN_at (es : List Ey) (h : WY es) (i : Nat) (hi : i < es.length) : ((toN es h).toArray[i]!).1 = es.getD i dY := by
  have hi' : i < (toN es h).length := by rw [toN_len]; exact hi
  have h1 : (toN es h).toArray[i]! = (toN es h)[i] := by simp [hi']
  rw [h1]
  have h2 : ((toN es h).map (·.1))[i]? = some ((toN es h)[i]).1 := by simp [hi']
  rw [toN_val] at h2
  rw [List.getD_eq_getElem?_getD, h2]
  rfl
theorem holds_own {w : World} {B g n cap : Nat} {es : List Ey} (hw : WY es) (hn : es.length = n) (h : w.ownsRow B 32 24 (.slice (some ⟨g, 0, none⟩) n cap) n (fE es)) : Sort.HoldsK encN 24 w g 0 (toN es hw).toArray := by
  intro j hj
  rw [Sort.size_flatK, List.size_toArray, toN_len, hn] at hj
  rw [Sort.get_flatK _ _ _ _ (by rw [List.size_toArray, toN_len, hn]; exact hj), Nat.zero_add]
  refine ⟨?_, h.frozenAt j⟩
  rw [h.cellAt j hj]
  have hd : j / 24 < es.length := by rw [hn]; exact Nat.div_lt_of_lt_mul (by omega)
  have hm : j % 24 < 24 := Nat.mod_lt _ (by omega)
  have e : j / 24 * 24 + j % 24 = j := by omega
  have := fE_at es hw (j / 24) (j % 24) hd hm
  rw [e] at this
  rw [this]
  show _ = some ((encY ((toN es hw).toArray[j / 24]!).1)[j % 24]!)
  rw [toN_at es hw _ hd]
  have hmem : es.getD (j / 24) dY ∈ es := by
    rw [List.getD_eq_getElem?_getD, List.getElem?_eq_getElem hd]
    exact List.getElem_mem _
  have hl : (encY (es.getD (j / 24) dY)).length = 24 := encY_len _ (hw _ hmem)
  rw [List.getElem?_eq_getElem (by omega), getElem!_pos _ _ (by omega)]
theorem sortW_block (w : World) (g m : Nat) (d : Array En) (os : Array Obj) (k : Nat) (hk : k < w.heap.size) (hg : k ≠ g) : (sortWorldK encN 24 w g 0 m d os).heap[k]? = w.heap[k]? := by
  show ((w.heap.modify g _) ++ os)[k]? = _
  rw [Array.getElem?_append_left (by simpa using hk)]
  simp [Array.getElem?_modify, Ne.symm hg]
theorem sortW_below {B : Nat} {w0 w : World} (hb : Below B w0 w) (hB : B ≤ w0.heap.size) (g m : Nat) (d : Array En) (os : Array Obj) (hg : B ≤ g) : Below B w0 (sortWorldK encN 24 w g 0 m d os) :=
  hb.trans ⟨rfl, rfl, rfl, by show _ ≤ ((w.heap.modify g _) ++ os).size; simp, fun k hk => sortW_block w g m d os k (by have := hb.size; omega) (by omega)⟩
def PostS (w : World) (es : List Ey) (e : Ending) (w' : World) : Prop := ∃ a cap es', e = .returned (.slice a es.length cap) ∧ es'.Perm es ∧ es'.Pairwise leK ∧ PY w' a cap es' ∧ Below w.heap.size w w'
theorem sorted_post {B g n cap : Nat} {w0 w : World} {es : List Ey} (hw : WY es) (hn : es.length = n) (h : w.ownsRow B 32 24 (.slice (some ⟨g, 0, none⟩) n cap) n (fE es)) (d' : Array En) (m : Nat) (os : Array Obj)
    (hp : Sort.PermIn 0 (toN es hw).toArray.size (toN es hw).toArray d') (hs : Sort.SortedIn (ltOf cfN) 0 (toN es hw).toArray.size d') :
    ((d'.toList.map (·.1)).Perm es) ∧ (d'.toList.map (·.1)).Pairwise leK ∧ PY (sortWorldK encN 24 w g 0 m d' os) (some ⟨g, 0, none⟩) cap (d'.toList.map (·.1)) := by
  have hsz : d'.size = (toN es hw).toArray.size := hp.1
  have hln : d'.size = n := by rw [hsz, List.size_toArray, toN_len, hn]
  have hH := holds_own hw hn h
  have hg : g < w.heap.size := (h.lt g rfl).2
  have hcap : n ≤ cap := by
    obtain ⟨_, ⟨h1, _⟩ | ⟨g', cap', cur, h1, _, _, h4, _⟩⟩ := h
    · cases h1
    · cases h1; exact h4
  refine ⟨?_, ?_, ⟨by simp [hln, hcap], fun h0 => ⟨g, 0, rfl, ?_, fun i hi j v hv => ?_⟩, fun h => by cases h⟩⟩
  · have := hp.2.2
    rw [← hsz, Array.extract_size, hsz, Array.extract_size] at this
    have := this.map (·.1)
    rwa [show ((toN es hw).toArray.toList).map (·.1) = es from toN_val es hw] at this
  · rw [List.pairwise_iff_getElem]
    intro i j hi hj hij
    simp only [List.length_map, Array.length_toList] at hi hj
    have := hs i j (Nat.zero_le _) hij (by rw [← hsz]; exact hj)
    rw [ltN_f, getElem!_pos d' j hj, getElem!_pos d' i hi] at this
    simpa using this
  · show g < ((w.heap.modify g _) ++ os).size
    simp; omega
  · have hi' : i < d'.size := by simpa using hi
    have hK : Sort.HoldsK encN 24 (sortWorldK encN 24 w g 0 m d' os) g 0 d' :=
      Sort.holdsK_grow encN 24 _ os g 0 d' (by show g < (w.heap.modify g _).size; simpa using hg) (Sort.holdsK_putRowK encN 24 _ g 0 (toN es hw).toArray d' (Sort.holdsK_ahead encN 24 w m g 0 _ hH) hsz)
    have he : (d'.toList.map (·.1)).getD i dY = (d'[i]!).1 := by
      rw [getElem!_pos d' i hi', List.getD_eq_getElem?_getD]
      simp [hi']
    rw [he] at hv
    have hl : (encN d'[i]!).length = 24 := encY_len _ (d'[i]!).2
    have hj : j < 24 := by
      obtain ⟨h1, _⟩ := List.getElem?_eq_some_iff.1 hv
      have : (encY (d'[i]!).1).length = 24 := hl
      omega
    have := (Sort.HoldsK.cell hK hi' hj).1
    rw [this]
    have hv' : (encN d'[i]!)[j]? = some v := hv
    rw [List.getElem?_eq_getElem (by omega)] at hv'
    rw [getElem!_pos _ _ (by omega)]
    exact hv'
set_option maxRecDepth 20000 in
theorem sortedFunc_any (Bs : Nat) (a : Option Addr) (cap : Nat) (es : List Ey) (w : World) (hwf : WY es) (hP : PY w a cap es) (hl : es.length ≤ 1000) (hbs : Boxed w Bs 22 (.slice a es.length cap)) :
    Calls Tryz.prog 25 #[.func (.func 48) #[] #[.pointer (some ⟨Bs, 0, none⟩)], .func (.func 27) #[] #[]] w (PostS w es) := by
  have HC : Hid (Calls Tryz.prog 46 #[.func (.func 48) #[] #[.pointer (some ⟨Bs, 0, none⟩)]] w (PostK w es)) := collect_any Bs a cap es w hwf hP hl hbs
  have HW : Hid (WY es) := hwf
  clear hwf hP hbs
  obtain ⟨n, HN⟩ : ∃ n, Hid (es.length = n) := ⟨_, rfl⟩
  have hn : n ≤ 1000 := by rw [← HN.out]; exact hl
  go_enter Tryz.func25, Tryz.ntmps25
  go_wp2_with fail
  refine HC.out.mono ?_
  rintro e w1 ⟨v, rfl, ho, hb⟩
  rw [HN.out] at ho
  obtain ⟨a1, c1, rfl⟩ := owns_shape ho
  have HO : Hid (w1.ownsRow w.heap.size 32 24 (.slice a1 n c1) n (fE es)) := ho
  have HB : Hid (Below w.heap.size w w1) := hb
  clear ho hb
  have C90 : Hid (Calls Tryz.prog 47 #[.slice a1 n c1, .func (.func 27) #[] #[]] w1 fun e w' => e = .returned (.tuple #[]) ∧ PostS w es (.returned (.slice a1 n c1)) w') := hid (by
    by_cases h0 : n = 0
    · have hes : es = [] := List.length_eq_zero_iff.1 (by rw [HN.out]; exact h0)
      have HO' := HO.out
      subst h0
      refine (sort_none a1 c1 _ w1).mono ?_
      rintro e w' ⟨rfl, rfl⟩
      refine ⟨rfl, a1, c1, [], by rw [HN.out], by rw [hes], List.Pairwise.nil, ⟨Nat.zero_le _, fun h => absurd h (by simp), fun h => ?_⟩, HB.out⟩
      obtain ⟨_, ⟨h1, _⟩ | ⟨g, cap', cur, h1, _⟩⟩ := HO'
      · cases h1; rfl
      · cases h1; cases h
    · obtain ⟨g, rfl⟩ : ∃ g, a1 = some ⟨g, 0, none⟩ := by
        obtain ⟨_, ⟨h1, h2⟩ | ⟨g, cap', cur, h1, _⟩⟩ := HO.out
        · exact absurd h2 h0
        · cases h1; exact ⟨g, rfl⟩
      have hg := HO.out.lt g rfl
      have hsz : (toN es HW.out).toArray.size = n := by rw [List.size_toArray, toN_len, HN.out]
      have := sort_any g 0 c1 (toN es HW.out).toArray w1 (holds_own HW.out HN.out HO.out) hg.2 (by rw [hsz]; exact hn)
      rw [hsz] at this
      refine this.mono ?_
      rintro e w' ⟨rfl, d', m, os, hp, hs, rfl⟩
      rw [← hsz] at hp hs
      obtain ⟨q1, q2, q3⟩ := sorted_post (w0 := w) HW.out HN.out HO.out d' m os hp hs
      exact ⟨rfl, _, c1, _, by rw [HN.out], q1, q2, q3, sortW_below HB.out (Nat.le_refl _) g m d' os hg.1⟩)
  go_wp2_with fail
  refine C90.out.mono ?_
  rintro e w2 ⟨rfl, hps⟩
  have HPS : Hid (PostS w es (.returned (.slice a1 n c1)) w2) := hps
  clear hps
  go_wp2
  go_ret
  exact HPS.out
end Go.Proofs.YtcicoeneemnbiaaGreatDoor
namespace Go.Proofs.YtcicoeneemnbiaaGreatDoor
open Go.RowKit
set_option linter.unusedVariables false
set_option linter.unusedSimpArgs false
def decE (s : List UInt8) : Decidable (okE s) := by unfold okE; infer_instance
def decP (s : List UInt8) : Decidable (okP s) := by
  unfold okP
  exact @instDecidableAnd _ _ _ (@List.decidableBAll _ _ decE (spl s))
def decPs (l : List Ey) : Decidable (okPs l) := @List.decidableBAll _ (fun e : Ey => okP e.path) (fun e => decP e.path) l
def decF (e : Ey) : Decidable (fOk e) := by unfold fOk; infer_instance
def decB (x y : Ey) : Decidable (bad2 x y) := by unfold bad2; infer_instance
def decFs (l : List Ey) : Decidable (l.length ≤ 2000 ∧ okFs l) := by
  unfold okFs
  exact @instDecidableAnd _ _ _ (@instDecidableAnd _ _ (@List.decidableBAll _ _ decF l) (@List.instDecidablePairwise _ _ (fun x y => @instDecidableNot _ (decB x y)) l))
theorem dir_dec (x y : Ey) : ((x.path ++ [47]).length < y.path.length ∧ y.path.take (x.path ++ [47]).length = x.path ++ [47]) ↔ dirOf x y := by
  constructor
  · rintro ⟨h1, h2⟩
    refine ⟨y.path.drop (x.path ++ [47]).length, ?_, ?_⟩
    · intro e
      have := congrArg List.length e
      rw [List.length_drop] at this
      simp at this h1
      omega
    · have := List.take_append_drop (x.path ++ [47]).length y.path
      rw [h2] at this
      rw [← this]
      simp
  · rintro ⟨r, hr, he⟩
    rw [he]
    have h : x.path ++ 47 :: r = (x.path ++ [47]) ++ r := by simp
    rw [h, List.take_left]
    refine ⟨?_, rfl⟩
    cases r with
    | nil => exact absurd rfl hr
    | cons c r => simp
def decD (x y : Ey) : Decidable (dirOf x y) := decidable_of_iff _ (dir_dec x y)
def decDs (l : List Ey) : Decidable (okDs l) := @List.decidableBAll _ (fun x : Ey => ∀ y ∈ l, ¬ dirOf x y) (fun x => @List.decidableBAll _ (fun y : Ey => ¬ dirOf x y) (fun y => @instDecidableNot _ (decD x y)) l) l
def codeY (l : List Ey) : Int := @ite _ (okPs l) (decPs l) (@ite _ (l.length ≤ 2000 ∧ okFs l) (decFs l) (@ite _ (okDs l) (decDs l) 0 71) 70) 71
def PostIn (l : List Ey) (w : World) (e : Ending) (w' : World) : Prop :=
  Below w.heap.size w w' ∧ ((codeY l = 0 ∧ ∃ a cap, e = .returned (.tuple #[.slice a l.length cap, .nilIface]) ∧ PY w' a cap (srtY l)) ∨ (codeY l ≠ 0 ∧ e = .returned (.tuple #[.slice none 0 0, .iface 38 (.int .i64 (codeY l))])))
def hdB (n : Nat) : Str := [68, 73, 82, 67, 0, 0, 0, 2] ++ nb 4 n
theorem sha_isB (l : List Int) : IsB (sha l) := by
  intro x hx
  unfold sha outAt at hx
  obtain ⟨i, _, rfl⟩ := List.mem_map.1 hx
  split
  · exact ⟨Int.emod_nonneg _ (by decide), Int.emod_lt_of_pos _ (by decide)⟩
  · omega
theorem sum_bytes (l : List Int) : ∃ sm : Str, nums sm = sha l ∧ sm.length = 20 ∧ row .u8 (sha l) = bv sm := by
  have hb := sha_isB l
  have e : nums ((sha l).map (fun z => UInt8.ofNat z.toNat)) = sha l := by
    unfold nums
    rw [List.map_map]
    conv => rhs; rw [← List.map_id (sha l)]
    refine List.map_congr_left (fun z hz => ?_)
    have := hb z hz
    simp
    omega
  refine ⟨_, e, by rw [List.length_map, sha_len], ?_⟩
  unfold row bv
  conv => lhs; rw [← e]
  unfold nums
  rw [List.map_map]
  rfl
theorem pb_new (sm : Str) (w : World) (t : TypeId) : PB (w.alloc (.cells (bv sm).toArray t)) (some ⟨w.heap.size, 0, none⟩) sm.length sm :=
  ⟨Nat.le_refl _, fun _ => ⟨w.heap.size, 0, rfl, by simp, fun i hi j v hv => by
    have hj : j = 0 := by
      have := (List.getElem?_eq_some_iff.1 hv).1
      simp [encB] at this
      exact this
    subst hj
    have hb : (bv sm)[i]? = some v := by
      unfold bv
      rw [List.getElem?_map, List.getElem?_eq_getElem hi, ← hv, List.getD_eq_getElem?_getD, List.getElem?_eq_getElem hi]
      rfl
    have := range_row (heap_alloc_new w (.cells (bv sm).toArray t)) i v hb
    simpa using this⟩, fun h => by cases h⟩
theorem code_ok {l : List Ey} (h : codeY l = 0) : okY l := by
  unfold codeY at h
  by_cases h1 : okPs l
  · rw [if_pos h1] at h
    by_cases h2 : l.length ≤ 2000 ∧ okFs l
    · rw [if_pos h2] at h
      by_cases h3 : okDs l
      · exact ⟨h1, h2.2, h3⟩
      · rw [if_neg h3] at h; cases h
    · rw [if_neg h2] at h; cases h
  · rw [if_neg h1] at h; cases h
theorem mk_rw {w0 w : World} {g : Nat} {l : Str} (h : Rw w0 w g l) : Mk w g l.length l :=
  ⟨h.lt, Nat.le_refl _, fun j u hj => by
    have hl := (List.getElem?_eq_some_iff.1 hj).1
    rw [bv_len] at hl
    unfold bv at hj
    rw [List.getElem?_map, List.getElem?_eq_getElem hl] at hj
    have := (h.cell j hl).1
    rw [List.getD_eq_getElem?_getD, List.getElem?_eq_getElem hl] at this
    rw [this]
    exact hj, fun i h1 h2 => absurd h2 (by omega)⟩
theorem Tryz.results4 : Tryz.f4.results = #[.tmp 2, .tmp 3] := by kernel_rfl
def idxS (l : List Ey) : Str := hdB l.length ++ l.flatMap entB
set_option maxRecDepth 20000 in
set_option maxHeartbeats 4000000 in
theorem write_any {w : World} (a : Option Addr) (ca : Nat) (l : List Ey) (hIn : Calls Tryz.prog 10 #[.slice a l.length ca] w (PostIn l w)) (hl : l.length ≤ 1000) (hw : WY l) :
    Calls Tryz.prog 4 #[.slice a l.length ca] w fun e w' => Below w.heap.size w w' ∧ ((codeY l ≠ 0 ∧ e = .returned (.tuple #[.slice none 0 0, .iface 38 (.int .i64 (codeY l))])) ∨ (codeY l = 0 ∧ ∃ a' cap' S, e = .returned (.tuple #[.slice a' S.length cap', .nilIface]) ∧ PB w' a' cap' S ∧ ∃ sm, nums sm = sha (nums (idxS (srtY l))) ∧ S = idxS (srtY l) ++ sm)) := by
  obtain ⟨n, HN⟩ : ∃ n, Hid (l.length = n) := ⟨_, rfl⟩
  have hn : n ≤ 1000 := by rw [← HN.out]; exact hl
  obtain ⟨G, HG⟩ : ∃ G, Hid (w.heap.size = G) := ⟨_, rfl⟩
  have C10 : Hid (Calls Tryz.prog 10 #[.slice a n ca] w (PostIn l w)) := hid (by rw [← HN.out]; exact hIn)
  have HWY : Hid (WY (srtY l)) := hid (fun e he => hw e ((srtY_perm l).mem_iff.1 he))
  have HLs : Hid ((srtY l).length = n) := hid (by rw [(srtY_perm l).length_eq]; exact HN.out)
  rw [HN.out]
  clear hIn hl hw
  go_enter Tryz.func4, Tryz.ntmps4
  go_wp2_with fail
  refine C10.out.mono ?_
  rintro e w1 ⟨hb1, ⟨h0, a1, c1, rfl, hp1⟩ | ⟨h0, rfl⟩⟩
  · rw [HN.out]
    have HB1 := hid hb1
    have HP1 := hid hp1
    have H0 := hid h0
    clear hb1 hp1 h0
    obtain ⟨g, HGg⟩ : ∃ g, Hid (w1.heap.size = g) := ⟨_, rfl⟩
    obtain ⟨W2, HW2⟩ : ∃ W2, Hid (w1.alloc (.cells (List.replicate 12 (.int .u8 0)).toArray 5) = W2) := ⟨_, rfl⟩
    have hmk : (Instr.makeSlice 23 (.int .i64 12) (.int .i64 12)).run Tryz.prog w1 = .ok (.slice (some ⟨g, 0, none⟩) 12 12) W2 := by rw [← HGg.out, ← HW2.out]; exact mk_bytes 12 (by omega) w1
    have HR0 : Hid (Rw w1 W2 g (zs 12)) := hid (by rw [← HGg.out, ← HW2.out]; exact rw_made 12 w1)
    obtain ⟨W3, HW3⟩ : ∃ W3, Hid (W2.setCells g 0 (bv [68, 73, 82, 67, 0, 0, 0, 2]) = W3) := ⟨_, rfl⟩
    have HR1 : Hid (Rw w1 W3 g (ov (zs 12) 0 [68, 73, 82, 67, 0, 0, 0, 2])) := hid (by rw [← HW3.out]; exact HR0.out.over 0 _ (by rw [zs_len]; decide))
    have hcp : ∀ ty, (Builtin.copy_ #[23, 9] ty #[.slice (some ⟨g, 0, none⟩) 12 12, .string ⟨#[68, 73, 82, 67, 0, 0, 0, 2]⟩]).run Tryz.prog W2 = .ok (goInt 8) W3 := fun ty => by
      have := copy_str HR0.out 0 12 12 [68, 73, 82, 67, 0, 0, 0, 2] (by rw [zs_len]; decide) (by decide) ty
      rw [HW3.out] at this
      exact this
    have C11 : Hid (Calls Tryz.prog 11 #[.slice (some ⟨g, 8, none⟩) 4 4, .int .i64 (n : Int)] W3 fun e w' => (∃ v, e = .returned v) ∧ Rw w1 w' g (ov (ov (zs 12) 0 [68, 73, 82, 67, 0, 0, 0, 2]) 8 (nb 4 n))) := hid (put_any HR1.out 8 4 4 (by omega) (by decide) n (by omega))
    have HOV : Hid (ov (ov (zs 12) 0 [68, 73, 82, 67, 0, 0, 0, 2]) 8 (nb 4 n) = hdB n) := hid rfl
    go_wp2_with fail
    refine C11.out.mono ?_
    rintro e w4 ⟨⟨rv, rfl⟩, hr4⟩
    rw [HOV.out] at hr4
    have HR4 := hid hr4
    clear hr4 hmk hcp
    go_wp2_with fail
    go_loopg [6, 28] n (fun gg sv iv wr => ∃ (i g' c' m : Nat) (S : Str), iv = .int .i64 i ∧ i ≤ n ∧ gg = n - i ∧ sv = .slice (some ⟨g', 0, none⟩) m c' ∧ Hid (S.length = m) ∧ Hid (S = hdB n ++ ((srtY l).take i).flatMap entB) ∧ Hid (Mk wr g' c' S) ∧ Hid (g ≤ g') ∧ Hid (Below g w1 wr) ∧ m ≤ 12 + 168 * i)
    case atStart => exact ⟨0, g, 12, 12, hdB n, rfl, Nat.zero_le _, rfl, rfl, hid rfl, hid (by simp), hid (mk_rw HR4.out), hid (Nat.le_refl _), hid HR4.out.below, by omega⟩
    case round =>
      obtain ⟨i, g', c', m, S, rfl, hi, hk, rfl, HSL, HSE, HMK, HGG, HBL, hmb⟩ := hrel
      by_cases hlt : i < n
      · have hlti : (i : Int) < (n : Int) := by omega
        have hil : i < (srtY l).length := by rw [HLs.out]; exact hlt
        have HPr : Hid (PY wr a1 c1 (srtY l)) := hid (HP1.out.below (by rw [HGg.out]; exact HBL.out))
        obtain ⟨b, off, hae, _⟩ := HPr.out.at_ (by omega)
        subst hae
        obtain ⟨x, HX⟩ : ∃ x, Hid ((srtY l).getD i dY = x) := ⟨_, rfl⟩
        have HRow : Hid (wr.rangeAt b (off + i * 24) (encY x)) := hid (by rw [← HX.out]; exact HPr.out.row i hil)
        have hxm : x ∈ srtY l := by rw [← HX.out]; exact getD_mem _ i dY hil
        have HI : Hid (x.id.length = 20) := hid (HWY.out x hxm)
        have HCY := hid (cy x HI.out)
        have hok := code_ok H0.out
        have hxl : x ∈ l := (srtY_perm l).mem_iff.1 hxm
        have HPL : Hid (x.path.length ≤ 100) := hid (hok.1 x hxl).1
        have hfo := hok.2.1.1 x hxl
        have C12 : Hid (∀ W, Calls Tryz.prog 12 #[.agg (encY x).toArray] W fun ev w' => ∃ g, ev = .returned (.slice (some ⟨g, 0, none⟩) (entLen x.path.length) (entLen x.path.length)) ∧ W.heap.size ≤ g ∧ PB w' (some ⟨g, 0, none⟩) (entLen x.path.length) (entB x) ∧ Below W.heap.size W w') := hid (fun W => writeEntry_any x HI.out (by have := HPL.out; omega) (by rcases hfo.1 with h | h | h <;> omega) (by have := hfo.2.1; have := hfo.2.2.1; omega) (by exact ⟨hfo.2.2.2.1, hfo.2.2.2.2⟩) W)
        have HTK : Hid ((srtY l).take (i + 1) = (srtY l).take i ++ [x]) := hid (by rw [← HX.out]; exact take_snocG dY _ i hil)
        obtain ⟨K, HK⟩ : ∃ K, Hid (entLen x.path.length = K) := ⟨_, rfl⟩
        have hK : K ≤ 168 := by rw [← HK.out]; unfold entLen; have := HPL.out; omega
        have HEL : Hid ((entB x).length = K) := hid (by rw [entB_len x HI.out]; exact HK.out)
        rw [HK.out] at C12
        obtain ⟨W1, HW1⟩ : ∃ W1, Hid (wr.alloc (.cells (encY x).toArray 32) = W1) := ⟨_, rfl⟩
        have HBW1 : Hid (Below wr.heap.size wr W1) := hid (by rw [← HW1.out]; exact (Below.refl _ wr).alloc (Nat.le_refl _) _)
        have HRow1 : Hid (W1.rangeAt wr.heap.size 0 (encY x)) := hid (by rw [← HW1.out]; exact range_row (heap_alloc_new wr _))
        have al : wr.alloc (.cells (encY x).toArray 32) = W1 := HW1.out
        clear hok hxl hxm hfo hil
        go_wp2_with (first
          | (refine wpList_load_mid rfl 32 _ rfl b (off + i * 24) rfl (encY x) _ HRow.out Tryz.underlying32 rfl (by rw [encY_len x HI.out]; exact info32) ?_)
          | (refine wpList_store_new rfl 32 _ _ rfl _ (encY x).toArray rfl rfl (by rw [HCY.out.size]; exact info32) (by rw [HCY.out.size]; rfl) HCY.out.one ?_)
          | (refine wpList_load_mid rfl 32 _ rfl wr.heap.size 0 rfl (encY x) _ HRow1.out Tryz.underlying32 rfl (by rw [encY_len x HI.out]; exact info32) ?_))
        refine (C12.out W1).mono ?_
        rintro ev w5 ⟨gE, rfl, hgE, hpE, hb5⟩
        have hb6 : Below wr.heap.size wr w5 := HBW1.out.trans (hb5.mono HBW1.out.size)
        have HM5 : Mk w5 g' c' S := HMK.out.below hb6
        obtain ⟨v6, w6, hr6, hap⟩ := app_mk w5 g' c' S (entB x) (some ⟨gE, 0, none⟩) K HM5 hpE (by rw [HSL.out, HEL.out]; omega)
        rw [HSL.out, HEL.out] at hr6
        obtain ⟨g2, c2, rfl, hm2, hg2, hgr⟩ := hap
        have HM2 := hid hm2
        have hlt5 : g' < wr.heap.size := HMK.out.lt
        have HG2 : Hid (g ≤ g2) := hid (by
          rcases hg2 with e | e
          · rw [e]; exact HGG.out
          · have := hb6.size; have := HGG.out; omega)
        have hgw : g ≤ wr.heap.size := by rw [← HGg.out]; exact HBL.out.size
        have HB6 : Hid (Below g w1 w6) := hid ((HBL.out.trans (hb6.mono hgw)).trans ⟨hgr.os, hgr.tape, hgr.output, hgr.size, fun q hq => hgr.block q (by have := hb6.size; omega) (fun e => by cases e; have := HGG.out; omega)⟩)
        have HS6 : Hid ((S ++ entB x).length = m + K) := hid (by rw [List.length_append, HSL.out, HEL.out])
        rw [HS6.out] at hr6
        have HR6 := hid hr6
        clear hm2 hg2 hgr hpE hb5 hb6 HM5 hr6
        go_wp2_with (refine wpList_app rfl _ _ 23 23 rfl 23 rfl (.slice (some ⟨g', 0, none⟩) m c') (.slice (some ⟨gE, 0, none⟩) K K) rfl rfl HR6.out ?_)
        go_roundg (n - (i + 1))
        case measure => omega
        case rel => exact ⟨i + 1, g2, c2, m + K, S ++ entB x, by go_num, by omega, rfl, rfl, HS6, hid (by rw [HTK.out, HSE.out, List.flatMap_append, List.append_assoc]; simp), HM2, HG2, HB6, by omega⟩
      · have hlti : ¬ (i : Int) < (n : Int) := by omega
        have HSF : Hid (S = idxS (srtY l)) := hid (by rw [HSE.out, List.take_of_length_le (by rw [HLs.out]; omega)]; unfold idxS; rw [HLs.out])
        obtain ⟨sm, hsm, hsl, hrow⟩ := sum_bytes (nums S)
        have HSM := hid hsm
        have C13 : Hid (Calls Tryz.prog 13 #[.slice (some ⟨g', 0, none⟩) m c'] wr fun e w' => e = .returned (.agg (bv sm).toArray) ∧ Below wr.heap.size wr w') := hid (by
          have := sum6 (some ⟨g', 0, none⟩) c' (nums S) wr (by rw [nums_len, HSL.out]; omega) (nums_b S) (fun _ => ⟨g', 0, rfl, HMK.out.lt, pb_at (HMK.out.pb), by rw [nums_len]; exact HMK.out.capl⟩)
          rwa [nums_len, HSL.out, hrow] at this)
        have HSB : Hid ((bv sm).toArray.size = 20) := hid (by rw [List.size_toArray, bv_len, hsl])
        have HON : Hid ((bv sm).toArray.all (·.oneCell') = true) := hid (all_oneCell_toArray (bv_one sm))
        have HS20 := hid hsl
        clear hsm hrow hsl
        go_wp2_with fail
        refine C13.out.mono ?_
        rintro ev w7 ⟨rfl, hb7⟩
        obtain ⟨W8, HW8⟩ : ∃ W8, Hid (w7.alloc (.cells (bv sm).toArray 30) = W8) := ⟨_, rfl⟩
        have hb8 : Below wr.heap.size wr W8 := by rw [← HW8.out]; exact hb7.alloc hb7.size _
        have hpb8 : PB W8 (some ⟨w7.heap.size, 0, none⟩) 20 sm := by
          have := pb_new sm w7 30
          rw [HW8.out] at this
          rwa [HS20.out] at this
        obtain ⟨v9, w9, hr9, hap⟩ := app_mk W8 g' c' S sm (some ⟨w7.heap.size, 0, none⟩) 20 (HMK.out.below hb8) hpb8 (by rw [HSL.out, HS20.out]; omega)
        rw [HSL.out, HS20.out] at hr9
        obtain ⟨g2, c2, rfl, hm2, hg2, hgr⟩ := hap
        have HR9 := hid hr9
        have HM2 := hid hm2
        have hgw : g ≤ wr.heap.size := by rw [← HGg.out]; exact HBL.out.size
        have hlt5 : g' < wr.heap.size := HMK.out.lt
        have HB9 : Hid (Below w.heap.size w w9) := hid (by
          have k1 : Below g w1 w9 := (HBL.out.trans (hb8.mono hgw)).trans ⟨hgr.os, hgr.tape, hgr.output, hgr.size, fun q hq => hgr.block q (by have := hb8.size; omega) (fun e => by cases e; have := HGG.out; omega)⟩
          exact HB1.out.trans (k1.mono (by rw [← HGg.out]; exact HB1.out.size)))
        have al : w7.alloc (.cells (bv sm).toArray 30) = W8 := HW8.out
        clear hb7 hb8 hpb8 hr9 hm2 hg2 hgr
        go_wp2_with (first
          | (refine wpList_store_new rfl 30 _ _ rfl _ (bv sm).toArray rfl rfl (by rw [HSB.out]; kernel_rfl) (by rw [HSB.out]; rfl) HON.out ?_)
          | (refine wpList_app rfl _ _ 23 23 rfl 23 rfl (.slice (some ⟨g', 0, none⟩) m c') (.slice (some ⟨w7.heap.size, 0, none⟩) 20 20) rfl rfl HR9.out ?_))
        refine bodyPost_ret (results_tmp2 Tryz.results4 _ _ _) rfl ?_
        exact ⟨HB9.out, .inr ⟨H0.out, _, c2, S ++ sm, by rw [List.length_append]; rfl, HM2.out.pb, sm, by rw [← HSF.out]; exact HSM.out, by rw [HSF.out]⟩⟩
  · have H0 := hid h0
    have HB1 := hid hb1
    clear hb1 h0
    go_wp2
    refine bodyPost_ret (results_tmp2 Tryz.results4 _ _ _) rfl ?_
    exact ⟨HB1.out, .inl ⟨H0.out, rfl⟩⟩
end Go.Proofs.YtcicoeneemnbiaaGreatDoor
namespace Go.Proofs.YtcicoeneemnbiaaGreatDoor
open Go.RowKit
variable [Inhabited En]
set_option linter.unusedVariables false
set_option linter.unusedSectionVars false
set_option linter.unusedSimpArgs false
theorem code_71 {l : List Ey} (h : ¬ okPs l) : codeY l = 71 := by unfold codeY; rw [if_neg h]
theorem code_70 {l : List Ey} (h : okPs l) (h2 : ¬ okFs l) : codeY l = 70 := by unfold codeY; rw [if_pos h, if_neg (fun k => h2 k.2)]
theorem code_71d {l : List Ey} (h : okPs l) (hn : l.length ≤ 2000) (h2 : okFs l) (h3 : ¬ okDs l) : codeY l = 71 := by unfold codeY; rw [if_pos h, if_pos ⟨hn, h2⟩, if_neg h3]
theorem code_0 {l : List Ey} (h : okPs l) (hn : l.length ≤ 2000) (h2 : okFs l) (h3 : okDs l) : codeY l = 0 := by unfold codeY; rw [if_pos h, if_pos ⟨hn, h2⟩, if_pos h3]
theorem okFs_iff {l m : List Ey} (hp : m.Perm l) (hs : m.Pairwise leK) (hf : ∀ x ∈ m, fOk x) : noNear m ↔ okFs l := by
  have hd : ∀ i, (hi : i < m.length) → m.getD i dY = m[i] := fun i hi => by rw [List.getD_eq_getElem?_getD, List.getElem?_eq_getElem hi]; rfl
  constructor
  · intro h
    refine okFs_perm hp ⟨hf, near_all m hf hs (fun i hi hb => ?_)⟩
    have h1 := h i hi
    rw [hd i (by omega), hd (i + 1) hi] at h1
    apply h1
    refine ⟨hb.1, ?_⟩
    have hle := List.pairwise_iff_getElem.1 hs i (i + 1) (by omega) hi (by omega)
    have hst : m[i].stage ≤ m[i + 1].stage := by
      rcases hle with k | k
      · rw [hb.1, ltS_irr] at k; cases k
      · exact k.2
    have h0 := (hf m[i] (List.getElem_mem _)).2.2.2.1
    rcases hb.2 with k | k | k
    · exact .inr k
    · exact .inl k
    · left; omega
  · intro h j hj hn
    have h2 := all_near m (okFs_perm hp.symm h).2 j hj
    rw [hd j (by omega), hd (j + 1) hj] at hn
    apply h2
    refine ⟨hn.1, ?_⟩
    rcases hn.2 with k | k
    · exact .inr (.inl k)
    · exact .inl k
theorem Tryz.results10 : Tryz.f10.results = #[.tmp 2, .tmp 3] := by kernel_rfl
def Clash : Prop := ∀ (W : World) (a : Option Addr) (cap : Nat) (l : List Ey), PY W a cap l → WY l → okPs l → l.length ≤ 1000 → Calls Tryz.prog 30 #[.slice a l.length cap] W fun e w' => BIs (¬ okDs l) e ∧ Below W.heap.size W w'
set_option maxRecDepth 20000 in
set_option maxHeartbeats 4000000 in
theorem inOrder_any (hCl : Clash) {w : World} (a : Option Addr) (ca : Nat) (l : List Ey) (hP : PY w a ca l) (hw : WY l) (hl : l.length ≤ 1000) : Calls Tryz.prog 10 #[.slice a l.length ca] w (PostIn l w) := by
  obtain ⟨n, HN⟩ : ∃ n, Hid (l.length = n) := ⟨_, rfl⟩
  obtain ⟨g, HG⟩ : ∃ g, Hid (w.heap.size = g) := ⟨_, rfl⟩
  have hn : n ≤ 1000 := by rw [← HN.out]; exact hl
  have HPW : Hid (∀ W, Below g w W → PY W a ca l) := fun W hW => hP.below (by rw [HG.out]; exact hW)
  have HFA : Hid (0 < n → ∃ b off, a = some ⟨b, off, none⟩) := fun h0 => by
    obtain ⟨b, off, e1, _⟩ := hP.at_ (by rw [HN.out]; exact h0)
    exact ⟨b, off, e1⟩
  have HWY : Hid (WY l) := hw
  have HCL : Hid Clash := hCl
  rw [HN.out]
  clear hP hw hl hCl
  go_enter Tryz.func10, Tryz.ntmps10
  go_wp2_with fail
  go_loopg [9] n (fun gg iv wr => ∃ i : Nat, iv = .int .i64 i ∧ i ≤ n ∧ gg = n - i ∧ Hid (∀ x ∈ l.take i, okP x.path) ∧ Hid (Below g w wr))
  case atStart => exact ⟨0, rfl, Nat.zero_le _, rfl, hid (by simp), hid (Below.refl _ _)⟩
  case round =>
    obtain ⟨i, rfl, hi, hk, HOK, HB⟩ := hrel
    by_cases hlt : i < n
    · have hlti : (i : Int) < (n : Int) := by omega
      obtain ⟨b, off, hae⟩ := HFA.out (by omega)
      subst hae
      have hil : i < l.length := by rw [HN.out]; exact hlt
      obtain ⟨x, HX⟩ : ∃ x, Hid (l.getD i dY = x) := ⟨_, rfl⟩
      have HRow : Hid (wr.rangeAt b (off + i * 24) (encY x)) := hid (by rw [← HX.out]; exact (HPW.out wr HB.out).row i hil)
      have HW : Hid (x.id.length = 20) := hid (by rw [← HX.out]; exact HWY.out _ (getD_mem l i dY hil))
      have HCY : Hid (CY x (encY x).toArray) := hid (cy x HW.out)
      have HT : Hid (l.take (i + 1) = l.take i ++ [x]) := hid (by rw [← HX.out]; exact take_snocG dY l i hil)
      have HM : Hid (x ∈ l) := hid (by rw [← HX.out]; exact getD_mem l i dY hil)
      obtain ⟨W, HWW⟩ : ∃ W, Hid (wr.alloc (.cells (encY x).toArray 32) = W) := ⟨_, rfl⟩
      obtain ⟨P, HPP⟩ : ∃ P : ByteArray, Hid (⟨x.path.toArray⟩ = P) := ⟨_, rfl⟩
      have k1 : W.cell? ⟨wr.heap.size, 0, none⟩ = some (.string P) := by rw [← HWW.out, ← HPP.out]; exact cellN HCY.out.c0
      have HBW : Hid (Below g w W) := hid (by rw [← HWW.out]; exact HB.out.alloc (by rw [← HG.out]; exact HB.out.size) _)
      have al : wr.alloc (.cells (encY x).toArray 32) = W := HWW.out
      have C24 : Hid (Calls Tryz.prog 24 #[.string P] W fun e w' => BIs (okP x.path) e ∧ Below W.heap.size W w') := hid (by rw [← HPP.out]; exact isPath_all x.path W)
      have hsW : g ≤ W.heap.size := by rw [← HG.out]; exact HBW.out.size
      clear hil
      go_wp2_with (first | (refine wpList_load_mid rfl 32 _ rfl b (off + i * 24) rfl (encY x) _ HRow.out Tryz.underlying32 rfl (by rw [encY_len x HW.out]; exact info32) ?_) | (refine wpList_store_new rfl 32 _ _ rfl _ (encY x).toArray rfl rfl (by rw [HCY.out.size]; exact info32) (by rw [HCY.out.size]; rfl) HCY.out.one ?_))
      refine C24.out.mono ?_
      rintro e w1 ⟨hbi, hb1⟩
      have HB1 : Hid (Below g w w1) := hid (HBW.out.trans (hb1.mono hsW))
      rcases bis_or hbi with ⟨hmd, rfl⟩ | ⟨hmd, rfl⟩
      · have HOK2 : Hid (∀ y ∈ l.take (i + 1), okP y.path) := hid (by
          rw [HT.out]
          intro y hy
          rcases List.mem_append.1 hy with h | h
          · exact HOK.out y h
          · rw [List.mem_singleton.1 h]; exact hmd)
        clear hbi hb1 hmd
        go_wp2
        go_roundg (n - (i + 1))
        case measure => omega
        case rel => exact ⟨i + 1, by go_num, by omega, rfl, HOK2, HB1⟩
      · have HC : Hid (codeY l = 71) := hid (code_71 (fun h => hmd (h x HM.out)))
        clear hbi hb1 hmd
        go_wp2
        refine bodyPost_ret (results_tmp2 Tryz.results10 _ _ _) rfl ?_
        exact ⟨by rw [HG.out]; exact HB1.out, .inr ⟨by rw [HC.out]; decide, by rw [HC.out]; rfl⟩⟩
    · have hlti : ¬ (i : Int) < (n : Int) := by omega
      have HPs : Hid (okPs l) := hid (by
        have h := HOK.out
        rwa [List.take_of_length_le (by rw [HN.out]; omega)] at h)
      have h2000 : ¬ (2000 : Int) < (n : Int) := by omega
      have HPr := hid (HPW.out wr HB.out)
      have hsr : g ≤ wr.heap.size := by rw [← HG.out]; exact HB.out.size
      have CV : Hid (Calls Tryz.prog 26 #[.slice a n ca] wr fun e w' => e = .returned (.func (.func 48) #[] #[.pointer (some ⟨wr.heap.size, 0, none⟩)]) ∧ w' = wr.alloc (.cells #[.slice a n ca] 22)) := hid (values_call a n ca wr)
      obtain ⟨W1, HW1⟩ : ∃ W1, Hid (wr.alloc (.cells #[.slice a n ca] 22) = W1) := ⟨_, rfl⟩
      have HBw1 : Hid (Below wr.heap.size wr W1) := hid (by rw [← HW1.out]; exact (Below.refl _ wr).alloc (Nat.le_refl _) _)
      have CS : Hid (Calls Tryz.prog 25 #[.func (.func 48) #[] #[.pointer (some ⟨wr.heap.size, 0, none⟩)], .func (.func 27) #[] #[]] W1 (PostS W1 l)) := hid (sortedFunc_any wr.heap.size a ca l W1 HWY.out (HPr.out.below HBw1.out) (by rw [HN.out]; exact hn) (by rw [← HW1.out, HN.out]; exact Boxed.new wr 22 _))
      go_wp2_with fail
      refine CV.out.mono ?_
      rintro e w1 ⟨rfl, hw1⟩
      rw [hw1, HW1.out]
      clear hw1 w1
      go_wp2_with fail
      refine CS.out.mono ?_
      rintro e w2 ⟨a2, c2, l2, rfl, hperm, hsort, hp2, hb2⟩
      rw [HN.out]
      have HB2 : Hid (Below g w w2) := hid ((HB.out.trans (HBw1.out.mono hsr)).trans (hb2.mono (Nat.le_trans hsr HBw1.out.size)))
      have HPE := hid hperm
      have HSO := hid hsort
      have HP2 := hid hp2
      have HW2 : Hid (WY l2) := hid (fun x hx => HWY.out x (hperm.mem_iff.1 hx))
      have HL2 : Hid (l2.length = n) := hid (by rw [hperm.length_eq]; exact HN.out)
      have hs2 : g ≤ w2.heap.size := by rw [← HG.out]; exact HB2.out.size
      clear hperm hsort hp2 hb2
      have C28 : Hid (Calls Tryz.prog 28 #[.slice a2 n c2] w2 fun e w' => BIs (∀ x ∈ l2, fOk x) e ∧ Below w2.heap.size w2 w') := hid (by rw [← HL2.out]; exact fields_any a2 c2 l2 HP2.out HW2.out (by rw [HL2.out]; omega))
      go_wp2_with fail
      refine C28.out.mono ?_
      rintro e w3 ⟨hbi, hb3⟩
      have HP3 := hid (HP2.out.below hb3)
      have HB3 : Hid (Below g w w3) := hid (HB2.out.trans (hb3.mono hs2))
      have hs3 : g ≤ w3.heap.size := by rw [← HG.out]; exact HB3.out.size
      rcases bis_or hbi with ⟨hf, rfl⟩ | ⟨hf, rfl⟩
      · have HF := hid hf
        clear hf hbi hb3
        have C29 : Hid (Calls Tryz.prog 29 #[.slice a2 n c2] w3 fun e w' => BIs (noNear l2) e ∧ Below w3.heap.size w3 w') := hid (by rw [← HL2.out]; exact stages_any a2 c2 l2 HP3.out HW2.out (by rw [HL2.out]; omega))
        go_wp2_with fail
        refine C29.out.mono ?_
        rintro e w4 ⟨hbi, hb4⟩
        have HP4 := hid (HP3.out.below hb4)
        have HB4 : Hid (Below g w w4) := hid (HB3.out.trans (hb4.mono hs3))
        have hs4 : g ≤ w4.heap.size := by rw [← HG.out]; exact HB4.out.size
        have hiff := okFs_iff HPE.out HSO.out HF.out
        rcases bis_or hbi with ⟨hq, rfl⟩ | ⟨hq, rfl⟩
        · have HFs : Hid (okFs l) := hid (hiff.1 hq)
          clear hq hbi hb4 hiff
          have HEQ : Hid (l2 = srtY l) := hid (sorted_one (HPE.out.trans (srtY_perm l).symm) HSO.out (srtY_sorted l) (okFs_perm HPE.out.symm HFs.out).2)
          have C30 : Hid (Calls Tryz.prog 30 #[.slice a2 n c2] w4 fun e w' => BIs (¬ okDs l2) e ∧ Below w4.heap.size w4 w') := hid (by rw [← HL2.out]; exact HCL.out w4 a2 c2 l2 HP4.out HW2.out (okPs_perm HPE.out.symm HPs.out) (by rw [HL2.out]; omega))
          go_wp2_with fail
          refine C30.out.mono ?_
          rintro e w5 ⟨hbi, hb5⟩
          have HP5 := hid (HP4.out.below hb5)
          have HB5 : Hid (Below g w w5) := hid (HB4.out.trans (hb5.mono hs4))
          rcases bis_or hbi with ⟨hq, rfl⟩ | ⟨hq, rfl⟩
          · have HC : Hid (codeY l = 71) := hid (code_71d HPs.out (by rw [HN.out]; omega) HFs.out (fun h => hq (okDs_perm HPE.out.symm h)))
            clear hbi hb5 hq
            go_wp2
            refine bodyPost_ret (results_tmp2 Tryz.results10 _ _ _) rfl ?_
            exact ⟨by rw [HG.out]; exact HB5.out, .inr ⟨by rw [HC.out]; decide, by rw [HC.out]; rfl⟩⟩
          · have HC : Hid (codeY l = 0) := hid (code_0 HPs.out (by rw [HN.out]; omega) HFs.out (okDs_perm HPE.out (Classical.not_not.1 hq)))
            clear hbi hb5 hq
            go_wp2
            refine bodyPost_ret (results_tmp2 Tryz.results10 _ _ _) rfl ?_
            exact ⟨by rw [HG.out]; exact HB5.out, .inl ⟨HC.out, a2, c2, by rw [HN.out]; rfl, by rw [← HEQ.out]; exact HP5.out⟩⟩
        · have HC : Hid (codeY l = 70) := hid (code_70 HPs.out (fun h => hq (hiff.2 h)))
          clear hbi hb4 hq hiff
          go_wp2
          refine bodyPost_ret (results_tmp2 Tryz.results10 _ _ _) rfl ?_
          exact ⟨by rw [HG.out]; exact HB4.out, .inr ⟨by rw [HC.out]; decide, by rw [HC.out]; rfl⟩⟩
      · have HC : Hid (codeY l = 70) := hid (code_70 HPs.out (fun h => hf (fun x hx => h.1 x (HPE.out.mem_iff.1 hx))))
        clear hbi hb3 hf
        go_wp2
        refine bodyPost_ret (results_tmp2 Tryz.results10 _ _ _) rfl ?_
        exact ⟨by rw [HG.out]; exact HB3.out, .inr ⟨by rw [HC.out]; decide, by rw [HC.out]; rfl⟩⟩
end Go.Proofs.YtcicoeneemnbiaaGreatDoor
