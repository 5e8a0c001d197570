/- 'byNumber'; lines in the order of their numbers. -/
import Derived.Test.YtjpihkheapjigaaDfN
import Derived.Test.YtjpihkheapjigaaShS
import Derived.Shelf.SlSortCmp.NoneTotal
namespace Go.Proofs.Ytjpihkheapjigaa
open Go.RowKit Go.Shelf
set_option linter.unusedVariables false
set_option linter.unusedSectionVars false
set_option linter.unusedSimpArgs false
def cz (x y : Int) : Int := if x < y then -1 else if y < x then 1 else 0
theorem nan48 (x : Int) (w : World) : Calls Try.prog 48 #[.int .i64 x] w fun e w' => e = .returned (.bool false) ∧ w' = w := by
  go_enter Try.func48, Try.ntmps48
  go_wp2
  go_ret
  exact ⟨rfl, rfl⟩
theorem cmp36 (x y : Int) (w : World) : Calls Try.prog 36 #[.int .i64 x, .int .i64 y] w fun e w' => e = .returned (.int .i64 (cz x y)) ∧ w' = w := by
  have h1 : Hid (Calls Try.prog 48 #[.int .i64 x] w fun e w' => e = .returned (.bool false) ∧ w' = w) := nan48 x w
  have h2 : Hid (Calls Try.prog 48 #[.int .i64 y] w fun e w' => e = .returned (.bool false) ∧ w' = w) := nan48 y w
  go_enter Try.func36, Try.ntmps36
  go_wp2_with fail
  refine h1.out.mono ?_
  rintro e w1 ⟨rfl, rfl⟩
  go_wp2_with fail
  refine h2.out.mono ?_
  rintro e w1 ⟨rfl, rfl⟩
  by_cases hlt : x < y
  · go_wp2
    go_ret
    exact ⟨by unfold cz; rw [if_pos hlt]; rfl, rfl⟩
  · by_cases hgt : y < x
    · go_wp2
      go_ret
      exact ⟨by unfold cz; rw [if_neg (by omega), if_pos hgt]; rfl, rfl⟩
    · go_wp2
      go_ret
      exact ⟨by unfold cz; rw [if_neg (by omega), if_neg (by omega)]; rfl, rfl⟩
/-- A line: its number, and how many bytes it has. -/
abbrev Kn := Int × Nat
def encK (x : Kn) : List Value := [.int .i64 x.1, .int .i64 (x.2 : Int)]
def cfK (x y : Kn) : Int := cz x.1 y.1
def Grew (w w' : World) : Prop := ∃ q os, w' = Sort.grow (w.drewN q) os
theorem Grew.two (w : World) (a b : Obj) : Grew w ((w.alloc a).alloc b) := ⟨0, #[a, b], by
  rw [Sort.alloc_eq_grow, Sort.alloc_eq_grow]
  unfold Sort.grow World.drewN
  simp
  try (apply Array.ext'; simp)⟩
set_option maxRecDepth 20000 in
theorem byNumber_grew (x y : Kn) (w : World) : Calls Try.prog 30 #[.agg (encK x).toArray, .agg (encK y).toArray] w fun e w' => e = .returned (.int .i64 (cfK x y)) ∧ Grew w w' := by
  obtain ⟨n, b⟩ := x
  obtain ⟨m, c⟩ := y
  have HC : Hid (∀ W, Calls Try.prog 36 #[.int .i64 n, .int .i64 m] W fun e w' => e = .returned (.int .i64 (cz n m)) ∧ w' = W) := fun W => cmp36 n m W
  have HG : Hid (∀ o o', Grew w ((w.alloc o).alloc o')) := fun o o' => Grew.two w o o'
  unfold encK cfK
  dsimp only
  go_enter Try.func30, Try.ntmps30
  go_wp2_with fail
  refine (HC.out _).mono ?_
  rintro e w1 ⟨rfl, rfl⟩
  go_wp2
  go_ret
  exact ⟨rfl, HG.out _ _⟩
theorem ltK (x y : Kn) : ltOf cfK x y = decide (x.1 < y.1) := by
  unfold ltOf cfK cz
  refine decide_eq_decide.2 ?_
  split
  · simp [*]
  · split <;> simp [*] <;> omega
theorem swoK : Sort.SWO (ltOf cfK) where
  irrefl x := by rw [ltK]; simp
  trans x y z h1 h2 := by
    rw [ltK] at *
    have := of_decide_eq_true h1
    have := of_decide_eq_true h2
    exact decide_eq_true (by omega)
  ntrans x y z h1 h2 := by
    rw [ltK] at *
    have := of_decide_eq_false h1
    have := of_decide_eq_false h2
    exact decide_eq_false (by omega)
theorem cmpLays30 (blk off size : Nat) (w : World) : CmpLays Try.prog 30 #[] encK 2 cfK blk off size w := fun m os dk _ x y => byNumber_grew x y (sortWorldK encK 2 w blk off m dk os)
theorem enters30 : ∀ args w, (callFunc 30 args).run Try.prog w = .ok (.enter 30 args) w := enters_of Try.func30 (by kernel_rfl) rfl
theorem encK_len (x : Kn) : (encK x).length = 2 := rfl
theorem encK_one (x : Kn) : ∀ v ∈ encK x, v.oneCell' = true := fun v hv => by
  rcases List.mem_cons.1 hv with rfl | hv
  · rfl
  · rw [List.mem_singleton.1 hv]; rfl
theorem sort_any (blk off cap : Nat) (d : Array Kn) (w : World) (hH : Sort.HoldsK encK 2 w blk off d) (hblk : blk < w.heap.size) (hsz : d.size ≤ 10000) :
    Calls Try.prog 29 #[.slice (some ⟨blk, off, none⟩) d.size cap, .func (.func 30) #[] #[]] w fun e w' => e = .returned (.tuple #[]) ∧ ∃ d' n os, Sort.PermIn 0 d.size d d' ∧ Sort.SortedIn (ltOf cfK) 0 d.size d' ∧ w' = sortWorldK encK 2 w blk off n d' os :=
  AnyQ.slices_SortFunc Try.sortK 2 Try.isAgg61 Try.sizeOf61 encK encK_len encK_one cfK swoK 30 #[] blk off cap d w enters30 (cmpLays30 blk off d.size w) hH hblk (by omega)
theorem sort_none (p : Option Addr) (cap : Nat) (fv : Value) (w : World) : Calls Try.prog 29 #[.slice p 0 cap, fv] w fun e w' => e = .returned (.tuple #[]) ∧ w' = w :=
  AnyF.slices_SortFunc_none Try.sortK p cap fv w
def fK (es : List Kn) : List Value := es.flatMap encK
/-- Lines in memory. -/
abbrev PK (w : World) (a : Option Addr) (cap : Nat) (l : List Kn) : Prop := Px encK 2 (0, 0) w a cap l
theorem arr_at (es : List Kn) (i : Nat) (hi : i < es.length) : es.toArray[i]! = es.getD i (0, 0) := by
  rw [getElem!_pos es.toArray i (by simpa using hi), List.getD_eq_getElem?_getD, List.getElem?_eq_getElem hi]
  simp
theorem holds_own {w : World} {B g n cap : Nat} {es : List Kn} (hn : es.length = n) (h : w.ownsRow B 61 2 (.slice (some ⟨g, 0, none⟩) n cap) n (fK es)) : Sort.HoldsK encK 2 w g 0 es.toArray := by
  intro j hj
  rw [Sort.size_flatK, List.size_toArray, hn] at hj
  rw [Sort.get_flatK _ _ _ _ (by rw [List.size_toArray, hn]; exact hj), Nat.zero_add]
  refine ⟨?_, h.frozenAt j⟩
  rw [h.cellAt j hj]
  have hd : j / 2 < es.length := by rw [hn]; exact Nat.div_lt_of_lt_mul (by omega)
  have hm : j % 2 < 2 := Nat.mod_lt _ (by omega)
  have e : j / 2 * 2 + j % 2 = j := by omega
  have := fX_at (enc := encK) (k := 2) (d := (0, 0)) es (fun x hx => encK_len x) (j / 2) (j % 2) hd hm
  rw [e] at this
  unfold fK
  rw [this, arr_at es _ hd]
  rw [List.getElem?_eq_getElem (by rw [encK_len]; exact hm), getElem!_pos _ _ (by rw [encK_len]; exact hm)]
  rfl
theorem sortW_block (w : World) (g m : Nat) (d : Array Kn) (os : Array Obj) (k : Nat) (hk : k < w.heap.size) (hg : k ≠ g) : (sortWorldK encK 2 w g 0 m d os).heap[k]? = w.heap[k]? := by
  show ((w.heap.modify g _) ++ os)[k]? = _
  rw [Array.getElem?_append_left (by simpa using hk)]
  simp [Array.getElem?_modify, Ne.symm hg]
theorem sortW_grown (w : World) (g m : Nat) (d : Array Kn) (os : Array Obj) : w.grownBy (sortWorldK encK 2 w g 0 m d os) (some g) :=
  ⟨rfl, rfl, rfl, by show _ ≤ ((w.heap.modify g _) ++ os).size; simp, fun k hk hn => sortW_block w g m d os k hk (fun e => hn (by rw [e]))⟩
theorem sorted_post {B g n cap : Nat} {w : World} {es : List Kn} (hn : es.length = n) (h : w.ownsRow B 61 2 (.slice (some ⟨g, 0, none⟩) n cap) n (fK es)) (d' : Array Kn) (m : Nat) (os : Array Obj)
    (hp : Sort.PermIn 0 es.toArray.size es.toArray d') (hs : Sort.SortedIn (ltOf cfK) 0 es.toArray.size d') :
    d'.toList.Perm es ∧ d'.toList.Pairwise (fun x y => x.1 ≤ y.1) ∧ PK (sortWorldK encK 2 w g 0 m d' os) (some ⟨g, 0, none⟩) cap d'.toList := by
  have hsz : d'.size = es.toArray.size := hp.1
  have hln : d'.size = n := by rw [hsz, List.size_toArray, hn]
  have hH := holds_own hn h
  have hg : g < w.heap.size := (h.lt g rfl).2
  have hcap : n ≤ cap := by
    obtain ⟨_, ⟨h1, _⟩ | ⟨g', cap', cur, h1, _, _, h4, _⟩⟩ := h
    · cases h1
    · cases h1; exact h4
  refine ⟨?_, ?_, ⟨by simp [hln, hcap], fun h0 => ⟨g, 0, rfl, ?_, fun i hi j v hv => ?_⟩, fun h => by cases h⟩⟩
  · have := hp.2.2
    rw [← hsz, Array.extract_size, hsz, Array.extract_size] at this
    exact this
  · rw [List.pairwise_iff_getElem]
    intro i j hi hj hij
    simp only [Array.length_toList] at hi hj
    have := hs i j (Nat.zero_le _) hij (by rw [← hsz]; exact hj)
    rw [ltK, getElem!_pos d' j hj, getElem!_pos d' i hi] at this
    have := of_decide_eq_false this
    simp only [Array.getElem_toList]
    omega
  · show g < ((w.heap.modify g _) ++ os).size
    simp; omega
  · have hi' : i < d'.size := by simpa using hi
    have hK : Sort.HoldsK encK 2 (sortWorldK encK 2 w g 0 m d' os) g 0 d' :=
      Sort.holdsK_grow encK 2 _ os g 0 d' (by show g < (w.heap.modify g _).size; simpa using hg) (Sort.holdsK_putRowK encK 2 _ g 0 es.toArray d' (Sort.holdsK_ahead encK 2 w m g 0 _ hH) hsz)
    have he : d'.toList.getD i (0, 0) = d'[i]! := by
      rw [getElem!_pos d' i hi', List.getD_eq_getElem?_getD]
      simp [hi']
    rw [he] at hv
    have hl : (encK d'[i]!).length = 2 := encK_len _
    have hj : j < 2 := by
      obtain ⟨h1, _⟩ := List.getElem?_eq_some_iff.1 hv
      omega
    have := (Sort.HoldsK.cell hK hi' hj).1
    rw [this]
    rw [List.getElem?_eq_getElem (by omega)] at hv
    rw [getElem!_pos _ _ (by omega)]
    exact hv
end Go.Proofs.Ytjpihkheapjigaa
