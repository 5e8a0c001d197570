/- 'takePlaces'. -/
import Derived.Test.YtdfihfmmfmoabaaDoorPkM
import Derived.OwnWalk
namespace Go.Proofs.YtdfihfmmfmoabaaDoor
open Go.RowKit Go.Shelf
variable [Inhabited Pn]
set_option linter.unusedVariables false
set_option linter.unusedSectionVars false
set_option linter.unusedSimpArgs false
def setAt : List Value → Nat → List Value → List Value
  | l, _, [] => l
  | l, o, v :: vs => setAt (l.set o v) (o + 1) vs
theorem heap_setCells_same (g : Nat) (t : TypeId) : ∀ (vs : List Value) (o : Nat) (w : World) (l : List Value), w.heap[g]? = some (.cells l.toArray t (0, 0)) → (w.setCells g o vs).heap[g]? = some (.cells (setAt l o vs).toArray t (0, 0))
  | [], _, _, _, h => h
  | v :: vs, o, w, l, h => by
    show ((w.setCell ⟨g, o, none⟩ v).setCells g (o + 1) vs).heap[g]? = _
    refine heap_setCells_same g t vs (o + 1) _ (l.set o v) ?_
    rw [heap_setCell_same w g o _ t v h, List.setIfInBounds_toArray]
theorem setAt_mid : ∀ (new old pre rest : List Value), new.length = old.length → setAt (pre ++ (old ++ rest)) pre.length new = pre ++ (new ++ rest)
  | [], [], pre, rest, _ => rfl
  | v :: new, x :: old, pre, rest, h => by
    show setAt ((pre ++ (x :: (old ++ rest))).set pre.length v) (pre.length + 1) new = _
    rw [List.set_append_right _ _ (Nat.le_refl _), Nat.sub_self, List.set_cons_zero]
    have := setAt_mid new old (pre ++ [v]) rest (by simpa using h)
    simpa using this
/-- Places that are a whole block. -/
def Fr (W : World) (g : Nat) (L : List Pl) : Prop := W.heap[g]? = some (.cells (L.flatMap plV).toArray 32 (0, 0))
theorem Fr.below {W W' : World} {g : Nat} {L : List Pl} (h : Fr W g L) (hb : Below W.heap.size W W') : Fr W' g L := (hb.block g (lt_of_some h)).trans h
theorem fr_id {W : World} {g i m : Nat} {D R : List Pl} {x : Pl} {y : List Int} (h : Fr W g (D ++ x :: R)) (hD : WfQ D) (hi : D.length = i) (hx : x.id.length = 20) (hy : y.length = 20) (hm : m = i * 22) : Fr (W.setCells g m (row .u8 y)) g (D ++ { x with id := y } :: R) := by
  subst hm
  unfold Fr at *
  have hl : (D.flatMap plV).length = i * 22 := by rw [fP_len D hD, hi]
  have e1 : (D ++ x :: R).flatMap plV = D.flatMap plV ++ (row .u8 x.id ++ ([.int .i64 x.off, .int .u32 x.crc] ++ R.flatMap plV)) := by simp [plV]
  have e2 : (D ++ { x with id := y } :: R).flatMap plV = D.flatMap plV ++ (row .u8 y ++ ([.int .i64 x.off, .int .u32 x.crc] ++ R.flatMap plV)) := by simp [plV]
  rw [e1] at h
  have := heap_setCells_same g 32 (row .u8 y) (i * 22) W _ h
  rw [this, e2, ← hl, setAt_mid _ _ _ _ (by rw [row_len, row_len, hx, hy])]
theorem fr_one {W : World} {g i k m : Nat} {D R : List Pl} {x x' : Pl} {v : Value} (h : Fr W g (D ++ x :: R)) (hD : WfQ D) (hi : D.length = i) (hx : x.id.length = 20) (hk : k < 22) (hv : (plV x).set k v = plV x') (hm : m = i * 22 + k) : Fr (W.setCell ⟨g, m, none⟩ v) g (D ++ x' :: R) := by
  subst hm
  unfold Fr at *
  have hl : (D.flatMap plV).length = i * 22 := by rw [fP_len D hD, hi]
  have e1 : (D ++ x :: R).flatMap plV = D.flatMap plV ++ (plV x ++ R.flatMap plV) := by simp
  have e2 : (D ++ x' :: R).flatMap plV = D.flatMap plV ++ (plV x' ++ R.flatMap plV) := by simp
  rw [e1] at h
  rw [heap_setCell_same W g (i * 22 + k) _ 32 v h, List.setIfInBounds_toArray, e2, List.set_append_right _ _ (by omega), hl, show i * 22 + k - i * 22 = k by omega, List.set_append_left _ _ (by rw [plV_len x hx]; exact hk), hv]
theorem set_off (x : Pl) (hx : x.id.length = 20) (o : Int) : (plV x).set 20 (.int .i64 o) = plV { x with off := o } := by
  unfold plV
  rw [List.set_append_right _ _ (by rw [row_len]; omega), row_len, hx]
  rfl
theorem set_crc (x : Pl) (hx : x.id.length = 20) (c : Int) : (plV x).set 21 (.int .u32 c) = plV { x with crc := c } := by
  unfold plV
  rw [List.set_append_right _ _ (by rw [row_len]; omega), row_len, hx]
  rfl
theorem fr_pp {W : World} {g : Nat} {L : List Pl} (h : Fr W g L) (hL : WfQ L) : Pp W (some ⟨g, 0, none⟩) L.length L :=
  ⟨Nat.le_refl _, fun _ => ⟨g, 0, rfl, lt_of_some h, fun i hi j v hv => by
    have hm : L.getD i p0 ∈ L := by
      rw [List.getD_eq_getElem?_getD, List.getElem?_eq_getElem hi]
      exact List.getElem_mem _
    have hj : j < 22 := by
      have := (List.getElem?_eq_some_iff.1 hv).1
      rw [plV_len _ (hL _ hm)] at this
      exact this
    have hf := fP_at L hL i j hi hj
    rw [hv] at hf
    rw [Nat.zero_add, cell_of_row W g (i * 22 + j) _ _ _ h]
    simpa using hf⟩, fun e => by cases e⟩
theorem fr_cell {W : World} {g i k m : Nat} {D R : List Pl} {x : Pl} {v : Value} (h : Fr W g (D ++ x :: R)) (hD : WfQ D) (hi : D.length = i) (hx : x.id.length = 20) (hk : (plV x)[k]? = some v) (hm : m = i * 22 + k) : W.cell? ⟨g, m, none⟩ = some v ∧ W.frozen? ⟨g, m, none⟩ = false := by
  subst hm
  have hl : (D.flatMap plV).length = i * 22 := by rw [fP_len D hD, hi]
  refine ⟨?_, frozen_of_row W g _ _ 32 h⟩
  rw [cell_of_row W g (i * 22 + k) _ _ _ h]
  have e1 : (D ++ x :: R).flatMap plV = D.flatMap plV ++ (plV x ++ R.flatMap plV) := by simp
  have hk2 := (List.getElem?_eq_some_iff.1 hk).1
  rw [e1, List.getElem?_toArray, List.getElem?_append_right (by omega), hl, show i * 22 + k - i * 22 = k by omega, List.getElem?_append_left hk2]
  exact hk
theorem fr_there {W : World} {g i m : Nat} {D R : List Pl} {x : Pl} (h : Fr W g (D ++ x :: R)) (hD : WfQ D) (hi : D.length = i) (hx : x.id.length = 20) (hm : m = i * 22) : W.there g m 20 := fun j hj => by
  have hl := plV_len x hx
  obtain ⟨h1, h2⟩ := fr_cell h hD hi hx (List.getElem?_eq_getElem (show j < (plV x).length by omega)) (show m + j = i * 22 + j by omega)
  exact ⟨by rw [h1]; rfl, h2⟩
theorem madeP (n : Nat) : (madeCells (plV p0).toArray (n * 22)).toList = (List.replicate n p0).flatMap plV := by
  have hW : WfQ (List.replicate n p0) := fun x hx => by rw [List.eq_of_mem_replicate hx]; rfl
  have hz : (plV p0).length = 22 := rfl
  refine List.ext_getElem? fun m => ?_
  by_cases hm : m < n * 22
  · have hd : m / 22 < n := Nat.div_lt_of_lt_mul (by omega)
    have hmd : m % 22 < 22 := Nat.mod_lt _ (by omega)
    have e : m / 22 * 22 + m % 22 = m := by omega
    have := fP_at (List.replicate n p0) hW (m / 22) (m % 22) (by simpa using hd) hmd
    rw [e] at this
    have hg : (List.replicate n p0).getD (m / 22) p0 = p0 := by
      rw [List.getD_eq_getElem?_getD, List.getElem?_replicate]
      split <;> rfl
    have h2 : (madeCells (plV p0).toArray (n * 22)).toList[m]? = some ((plV p0).toArray[m % 22]!) := by
      simp [madeCells, hm, hz]
    rw [this, hg, h2, getElem!_pos (plV p0).toArray (m % 22) (by simpa [hz] using hmd)]
    simp [hmd, hz]
  · rw [List.getElem?_eq_none (by simp [size_madeCells]; omega), List.getElem?_eq_none (by rw [fP_len _ hW, List.length_replicate]; omega)]
theorem und25 : Tryd.prog.underlying 25 = some (.slice (Tryd.prog.elem 25)) := by kernel_rfl
theorem size25e (w : World) : (sizeOf (Tryd.prog.elem 25)).run Tryd.prog w = .ok 1 w := by kernel_rfl
theorem slB_from (b o L cap j : Nat) (J : Int) (hJ : J = (j : Int)) (h : j ≤ L) (hc : j < cap) (hLc : L ≤ cap) (w : World) : (Instr.slice 25 (.slice (some ⟨b, o, none⟩) L cap) (some (.int .i64 J)) none none).run Tryd.prog w = .ok (.slice (some ⟨b, o + j, none⟩) (L - j) (cap - j)) w := by
  subst hJ
  rw [run_slice_l w 25 _ L cap und25 .i64 j (by omega) (by omega), size25e, Result.andThen_ok, sliced]
  congr 2
  · rw [if_neg (by omega)]
    simp [addr_add]
  all_goals omega
theorem fr_made {w : World} {B g n : Nat} (h : w.ownsRow B 32 22 (.slice (some ⟨g, 0, none⟩) n n) n (madeCells (plV p0).toArray (n * 22)).toList) : Fr w g (List.replicate n p0) := by
  obtain ⟨hl, ⟨h1, _⟩ | ⟨g', c, cur, h1, hB, h3, h4, h5, h6, h7⟩⟩ := h
  · cases h1
  · cases h1
    unfold Fr
    rw [h3]
    congr 2
    rw [← madeP, ← h7, List.take_of_length_le (by rw [Array.length_toList]; omega)]
theorem results_t2 {P : Program} {fn : Func} {p q : Tmp} {ty : TypeId} (h : fn.results = #[.tmp q, .cell p ty]) (tmps : Array Value) (w : World) (g : Nat) (cs : List Value) (d : TypeDesc)
    (hp : tmps.getD p undef = .pointer (some ⟨g, 0, none⟩)) (hc : w.rangeAt g 0 cs) (hu : P.underlying ty = some d) (hd : d.isRow = true) (hi : (P.info? ty).map (·.size) = some cs.length) :
    (results fn tmps).run P w = .ok (.tuple #[tmps.getD q undef, .agg cs.toArray]) w := by
  have hp' : tmps[p]?.getD undef = .pointer (some ⟨g, 0, none⟩) := by simpa using hp
  simp [results, h, hp', asAddr, run_loadVar_mid w g 0 ty cs d hc hu hd hi]
theorem results_t3 {P : Program} {fn : Func} {p q r : Tmp} {ty : TypeId} (h : fn.results = #[.tmp q, .cell p ty, .tmp r]) (tmps : Array Value) (w : World) (g : Nat) (cs : List Value) (d : TypeDesc)
    (hp : tmps.getD p undef = .pointer (some ⟨g, 0, none⟩)) (hc : w.rangeAt g 0 cs) (hu : P.underlying ty = some d) (hd : d.isRow = true) (hi : (P.info? ty).map (·.size) = some cs.length) :
    (results fn tmps).run P w = .ok (.tuple #[tmps.getD q undef, .agg cs.toArray, tmps.getD r undef]) w := by
  have hp' : tmps[p]?.getD undef = .pointer (some ⟨g, 0, none⟩) := by simpa using hp
  simp [results, h, hp', asAddr, run_loadVar_mid w g 0 ty cs d hc hu hd hi]
theorem Tryd.results34 : Tryd.f34.results = #[.tmp 2, .cell 3 24] := by kernel_rfl
theorem heap_setCells_ne (g k : Nat) : ∀ (vs : List Value) (o : Nat) (w : World), k ≠ g → (w.setCells g o vs).heap[k]? = w.heap[k]?
  | [], _, _, _ => rfl
  | v :: vs, o, w, h => by
    show ((w.setCell ⟨g, o, none⟩ v).setCells g (o + 1) vs).heap[k]? = _
    rw [heap_setCells_ne g k vs (o + 1) _ h]
    unfold World.setCell
    simp [Array.getElem?_modify, Ne.symm h]
/-- What the answer's region reads and writes. -/
structure RW (K G n : Nat) (R : List Value) (W : World) : Prop where
  r : W.rangeAt K 0 R
  t : W.there G 0 n
theorem there_off {w : World} {g n : Nat} {cs : Array Value} {t : TypeId} (h : w.heap[g]? = some (.cells cs t (0, 0))) (hn : n ≤ cs.size) : w.there g 0 n := fun j hj => by
  rw [Nat.zero_add]
  refine ⟨?_, frozen_of_row w g j _ t h⟩
  rw [cell_of_row w g j _ t _ h]
  simp; omega
/-- What 'takePlaces' gives. -/
def PostTk (B : List Int) (n : Nat) (w : World) (e : Ending) (w' : World) : Prop := ∃ g, e = .returned (.tuple #[.slice (some ⟨g, 0, none⟩) n n, .agg (row .u8 (rd20 B (1032 + 28 * n))).toArray]) ∧ Below w.heap.size w w' ∧ w.heap.size ≤ g ∧ Fr w' g (rdP B n)
theorem rdP_take (B : List Int) (n i : Nat) (h : i < n) : (rdP B n).take (i + 1) = (rdP B n).take i ++ [⟨rd20 B (1032 + 20 * i), rd4 B (1032 + 24 * n + 4 * i), rd4 B (1032 + 20 * n + 4 * i)⟩] := by
  rw [List.take_add_one, ← rdP_at B n i h, List.getD_eq_getElem?_getD, List.getElem?_eq_getElem (by rw [rdP_len]; exact h)]
  rfl
set_option maxRecDepth 20000 in
set_option maxHeartbeats 4000000 in
theorem takePlaces_any (b off cap n : Nat) (B : List Int) (w : World) (hz : IsB B) (h1072 : 1072 ≤ B.length) (hn : (B.length - 1072) / 28 = n) (hlen : B.length ≤ 20000) (hcap : B.length ≤ cap) (hbw : b < w.heap.size) (hat : At w b off B) :
    Calls Tryd.prog 34 #[.slice (some ⟨b, off, none⟩) B.length cap] w (PostTk B n w) := by
  obtain ⟨G, HG⟩ : ∃ G, Hid (w.heap.size = G) := ⟨_, rfl⟩
  obtain ⟨LN, HLN⟩ : ∃ n, Hid (B.length = n) := ⟨_, rfl⟩
  have hLN : 1072 ≤ LN ∧ LN ≤ 20000 := by rw [← HLN.out]; exact ⟨h1072, hlen⟩
  have hnL : 1072 + 28 * n ≤ LN := by rw [← HLN.out]; omega
  have hn7 : n ≤ 700 := by omega
  have hLc : LN ≤ cap := by rw [← HLN.out]; exact hcap
  have hq : Int.tdiv ((LN : Int) - 1072) 28 = (n : Int) := by
    rw [HLN.out] at hn
    rw [Int.tdiv_eq_ediv_of_nonneg (by omega)]
    omega
  obtain ⟨zr, HZ⟩ : ∃ zr : Array Value, Hid (zr = (row .u8 z20).toArray) := ⟨_, rfl⟩
  have hz24 : ∀ w : World, (zeroValue 24).run Tryd.prog w = .ok (.agg zr) w := fun w => by rw [HZ.out]; kernel_rfl
  obtain ⟨o1, HO1⟩ : ∃ o, Hid (off + 1032 = o) := ⟨_, rfl⟩
  obtain ⟨o2, HO2⟩ : ∃ o, Hid (o1 + 20 * n = o) := ⟨_, rfl⟩
  obtain ⟨o3, HO3⟩ : ∃ o, Hid (o2 + 4 * n = o) := ⟨_, rfl⟩
  obtain ⟨o4, HO4⟩ : ∃ o, Hid (o3 + 4 * n = o) := ⟨_, rfl⟩
  obtain ⟨l1, HL1⟩ : ∃ o, Hid (LN - 1032 = o) := ⟨_, rfl⟩
  obtain ⟨l2, HL2⟩ : ∃ o, Hid (l1 - 20 * n = o) := ⟨_, rfl⟩
  obtain ⟨l3, HL3⟩ : ∃ o, Hid (l2 - 4 * n = o) := ⟨_, rfl⟩
  obtain ⟨l4, HL4⟩ : ∃ o, Hid (l3 - 4 * n = o) := ⟨_, rfl⟩
  obtain ⟨c1, HC1⟩ : ∃ o, Hid (cap - 1032 = o) := ⟨_, rfl⟩
  obtain ⟨c2, HC2⟩ : ∃ o, Hid (c1 - 20 * n = o) := ⟨_, rfl⟩
  obtain ⟨c3, HC3⟩ : ∃ o, Hid (c2 - 4 * n = o) := ⟨_, rfl⟩
  obtain ⟨c4, HC4⟩ : ∃ o, Hid (c3 - 4 * n = o) := ⟨_, rfl⟩
  have e1 := HL1.out
  have e2 := HL2.out
  have e3 := HL3.out
  have e4 := HL4.out
  have k1 := HC1.out
  have k2 := HC2.out
  have k3 := HC3.out
  have k4 := HC4.out
  have hs1 : ∀ W : World, (Instr.slice 25 (.slice (some ⟨b, off, none⟩) LN cap) (some (.int .i64 1032)) none none).run Tryd.prog W = .ok (.slice (some ⟨b, o1, none⟩) l1 c1) W := fun W => by
    rw [← HO1.out, ← HL1.out, ← HC1.out]; exact slB_from b off LN cap 1032 _ rfl (by omega) (by omega) (by omega) W
  have hs2 : ∀ W : World, (Instr.slice 25 (.slice (some ⟨b, o1, none⟩) l1 c1) (some (.int .i64 ((n : Int) * 20))) none none).run Tryd.prog W = .ok (.slice (some ⟨b, o2, none⟩) l2 c2) W := fun W => by
    rw [← HO2.out, ← HL2.out, ← HC2.out]; exact slB_from b o1 l1 c1 (20 * n) _ (by omega) (by omega) (by omega) (by omega) W
  have hs3 : ∀ W : World, (Instr.slice 25 (.slice (some ⟨b, o2, none⟩) l2 c2) (some (.int .i64 ((n : Int) * 4))) none none).run Tryd.prog W = .ok (.slice (some ⟨b, o3, none⟩) l3 c3) W := fun W => by
    rw [← HO3.out, ← HL3.out, ← HC3.out]; exact slB_from b o2 l2 c2 (4 * n) _ (by omega) (by omega) (by omega) (by omega) W
  have hs4 : ∀ W : World, (Instr.slice 25 (.slice (some ⟨b, o3, none⟩) l3 c3) (some (.int .i64 ((n : Int) * 4))) none none).run Tryd.prog W = .ok (.slice (some ⟨b, o4, none⟩) l4 c4) W := fun W => by
    rw [← HO4.out, ← HL4.out, ← HC4.out]; exact slB_from b o3 l3 c3 (4 * n) _ (by omega) (by omega) (by omega) (by omega) W
  obtain ⟨SU, HSU⟩ : ∃ S : List Value, Hid (row .u8 (rd20 B (1032 + 28 * n)) = S) := ⟨_, rfl⟩
  have HAT : Hid (∀ W, Below G w W → At W b off B ∧ b < W.heap.size) := fun W hW => by
    rw [← HG.out] at hW
    exact ⟨fun i hi => (hW.cell (p := ⟨b, off + i, none⟩) hbw).trans (hat i hi), Nat.lt_of_lt_of_le hbw hW.size⟩
  have HB : Hid (IsB B) := hz
  have CI : Hid (∀ (W : World) (k L c : Nat), Below G w W → k + 20 ≤ LN → L = LN - k → Calls Tryd.prog 50 #[.slice (some ⟨b, off + k, none⟩) L c] W fun e w' => e = .returned (.agg (row .u8 (rd20 B k)).toArray) ∧ Below W.heap.size W w') := fun W k L c hW hk hL =>
    readID_any b off k L c B W HB.out (by rw [HLN.out]; exact hk) (by rw [HLN.out]; exact hL) (HAT.out W hW).2 (HAT.out W hW).1
  have CN : Hid (∀ (W : World) (k L c : Nat), Below G w W → k + 4 ≤ LN → L = LN - k → Calls Tryd.prog 51 #[.slice (some ⟨b, off + k, none⟩) L c] W fun e w' => e = .returned (.int .u32 (rd4 B k)) ∧ ∃ n, w' = W.drewN n) := fun W k L c hW hk hL =>
    readNumber_any b off k L c B W HB.out (by rw [HLN.out]; exact hk) (by rw [HLN.out]; exact hL) (HAT.out W hW).1
  have C5 : Hid (∀ W, Below G w W → Calls Tryd.prog 50 #[.slice (some ⟨b, o4, none⟩) l4 c4] W fun e w' => e = .returned (.agg SU.toArray) ∧ Below W.heap.size W w') := fun W hW => by
    have := CI.out W (1032 + 28 * n) l4 c4 hW (by omega) (by omega)
    rw [HSU.out, show off + (1032 + 28 * n) = o4 by rw [← HO4.out, ← HO3.out, ← HO2.out, ← HO1.out]; omega] at this
    exact this
  rw [HLN.out]
  clear hat hbw hn h1072 hlen hcap hz
  go_enter Tryd.func34, Tryd.ntmps34
  go_wp2_with fail
  obtain ⟨w1, HW1⟩ : ∃ w1, Hid (w.alloc (.cells zr 24) = w1) := ⟨_, rfl⟩
  have hb1 : Below w.heap.size w w1 := by rw [← HW1.out]; exact (Below.refl _ w).alloc (Nat.le_refl _) _
  have HB1 : Hid (Below G w w1) := hid (by rw [← HG.out]; exact hb1)
  have HR1 : Hid (w1.heap[G]? = some (.cells zr 24 (0, 0))) := hid (by rw [← HW1.out, ← HG.out]; exact heap_alloc_new w _)
  clear hb1
  rw [HW1.out, HG.out]
  refine (C5.out w1 HB1.out).mono ?_
  rintro ev w2 ⟨rfl, hb2⟩
  have hG1 : G < w1.heap.size := lt_of_some HR1.out
  have HB2 : Hid (Below G w w2) := hid (HB1.out.trans (hb2.mono (Nat.le_of_lt hG1)))
  have HR2 : Hid (w2.heap[G]? = some (.cells zr 24 (0, 0))) := hid ((hb2.block G hG1).trans HR1.out)
  clear hb2 HB1 HR1 hG1
  have HRL : Hid (SU.length = 20) := hid (by rw [← HSU.out, row_len]; exact rd20_len B _ (by rw [HLN.out]; omega))
  have I24 : Hid ((Tryd.prog.info? 24).map (·.size) = some SU.toArray.size) := hid (by rw [List.size_toArray, HRL.out]; exact Tryd.size24)
  have E24 : Hid (zr.size = SU.toArray.size) := hid (by rw [HZ.out, List.size_toArray, List.size_toArray, HRL.out]; rfl)
  have O24 : Hid (SU.toArray.all (·.oneCell') = true) := hid (by rw [← HSU.out]; exact all_oneCell_toArray (row_one _ _))
  have D0 : Hid ((w2.alloc (.cells zr 24)).heap[w2.heap.size]? = some (.cells zr 24 (0, 0))) := heap_alloc_new w2 _
  obtain ⟨w3, HW3⟩ : ∃ w3, Hid ((w2.alloc (.cells zr 24)).setRow w2.heap.size SU.toArray = w3) := ⟨_, rfl⟩
  obtain ⟨K, HK⟩ : ∃ K, Hid (w2.heap.size = K) := ⟨_, rfl⟩
  have hb3 : Below w2.heap.size w2 w3 := by rw [← HW3.out]; exact below_setRow ((Below.refl _ w2).alloc (Nat.le_refl _) _) (Nat.le_refl _) _
  have B3 : Hid (w3.heap[K]? = some (.cells SU.toArray 24 (0, 0))) := hid (by rw [← HW3.out, ← HK.out]; exact setRow_heap _ _ _ SU.toArray _ _ D0.out)
  have hG2 : G < w2.heap.size := lt_of_some HR2.out
  have HB3 : Hid (Below G w w3) := hid (HB2.out.trans (hb3.mono (Nat.le_of_lt hG2)))
  have HR3 : Hid (w3.heap[G]? = some (.cells zr 24 (0, 0))) := hid ((hb3.block G hG2).trans HR2.out)
  have hGK : G < K := by rw [← HK.out]; exact hG2
  clear hb3 HB2 HR2 hG2
  obtain ⟨i32, hi32, hz0, hz1, hz2⟩ := info_parts Tryd.info32p
  go_wp2_with (first
    | (refine wpList_store_row rfl 24 _ _ rfl w2.heap.size SU.toArray rfl rfl 24 zr D0.out I24.out E24.out O24.out ?_; rw [HW3.out, HK.out])
    | (at_make; refine wpList_make_full _ rfl _ _ 22 rfl w3.heap.size 32 i32 (.agg (plV p0).toArray) 22 Tryd.underlying22 hi32 hz0 hz1 _ _ _ _ n rfl rfl ?c1 ?c2 ?c3 ?c4 ?c5 ?_)
    | fail)
  case c1 => rfl
  case c2 => rfl
  case c3 => rw [hz2]; omega
  case c4 => unfold maxLen; omega
  case c5 => exact Nat.le_refl _
  intro w4 ho4 hg4
  obtain ⟨F, HF⟩ : ∃ F, Hid (w3.heap.size = F) := ⟨_, rfl⟩
  rw [HF.out] at ho4
  have HFR : Hid (Fr w4 F (List.replicate n p0)) := hid (fr_made ho4)
  have hGF : G < F := by rw [← HF.out]; exact lt_of_some HR3.out
  have hKF : K < F := by rw [← HF.out]; exact lt_of_some B3.out
  have HB4 : Hid (Below F w3 w4) := hid (by rw [← HF.out]; exact (Below.refl _ w3).grown hg4 (Nat.le_refl _) (fun k h => by cases h))
  have HBW : Hid (∀ W, Below F w3 W → Below G w W) := fun W hW => HB3.out.trans (hW.mono (Nat.le_of_lt hGF))
  clear ho4 hg4
  rw [HF.out]
  go_wp2_with fail
  go_loopg [34] n (fun g iv wr => ∃ i : Nat, i ≤ n ∧ g = n - i ∧ iv = .int .i64 i ∧ Hid (Below F w3 wr) ∧ Hid (Fr wr F ((rdP B n).take i ++ List.replicate (n - i) p0)))
  case atStart => exact ⟨0, Nat.zero_le _, rfl, rfl, HB4, hid (by simpa using HFR.out)⟩
  case round =>
    obtain ⟨i, hi, hg, rfl, HBr, HFr⟩ := hrel
    by_cases hlt : i < n
    · have hlti : (i : Int) < (n : Int) := by omega
      have HDL : Hid (((rdP B n).take i).length = i) := hid (by rw [List.length_take, rdP_len]; omega)
      have HDW : Hid (WfQ ((rdP B n).take i)) := fun p hp => (rdP_wp B n HB.out (by rw [HLN.out]; exact hnL) p (List.mem_of_mem_take hp)).1
      obtain ⟨D, HD⟩ : ∃ D, Hid ((rdP B n).take i = D) := ⟨_, rfl⟩
      obtain ⟨R, HR⟩ : ∃ R, Hid (List.replicate (n - (i + 1)) p0 = R) := ⟨_, rfl⟩
      have HFA : Hid (Fr wr F (D ++ p0 :: R)) := hid (by
        have := HFr.out
        rw [HD.out, show n - i = (n - (i + 1)) + 1 by omega, List.replicate_succ, HR.out] at this
        exact this)
      rw [HD.out] at HDL HDW
      clear HFr
      obtain ⟨I1, HI1⟩ : ∃ l, Hid (rd20 B (1032 + 20 * i) = l) := ⟨_, rfl⟩
      obtain ⟨q1, HQ1⟩ : ∃ l, Hid (rd4 B (1032 + 20 * n + 4 * i) = l) := ⟨_, rfl⟩
      obtain ⟨q2, HQ2⟩ : ∃ l, Hid (rd4 B (1032 + 24 * n + 4 * i) = l) := ⟨_, rfl⟩
      have hI20 : I1.length = 20 := by rw [← HI1.out]; exact rd20_len B _ (by rw [HLN.out]; omega)
      have hq2 : 0 ≤ q2 ∧ q2 < 4294967296 := by rw [← HQ2.out]; exact rd4_bd B _ HB.out
      obtain ⟨RI, HRI⟩ : ∃ R : List Value, Hid (row .u8 I1 = R) := ⟨_, rfl⟩
      obtain ⟨oa, HOA⟩ : ∃ o, Hid (o1 + 20 * i = o) := ⟨_, rfl⟩
      obtain ⟨la, HLA⟩ : ∃ o, Hid (l1 - 20 * i = o) := ⟨_, rfl⟩
      obtain ⟨ca, HCA⟩ : ∃ o, Hid (c1 - 20 * i = o) := ⟨_, rfl⟩
      obtain ⟨ob, HOB⟩ : ∃ o, Hid (o2 + 4 * i = o) := ⟨_, rfl⟩
      obtain ⟨lb, HLB⟩ : ∃ o, Hid (l2 - 4 * i = o) := ⟨_, rfl⟩
      obtain ⟨cb, HCB⟩ : ∃ o, Hid (c2 - 4 * i = o) := ⟨_, rfl⟩
      obtain ⟨oc, HOC⟩ : ∃ o, Hid (o3 + 4 * i = o) := ⟨_, rfl⟩
      obtain ⟨lc, HLC⟩ : ∃ o, Hid (l3 - 4 * i = o) := ⟨_, rfl⟩
      obtain ⟨cc, HCC⟩ : ∃ o, Hid (c3 - 4 * i = o) := ⟨_, rfl⟩
      have hsa : ∀ W : World, (Instr.slice 25 (.slice (some ⟨b, o1, none⟩) l1 c1) (some (.int .i64 ((i : Int) * 20))) none none).run Tryd.prog W = .ok (.slice (some ⟨b, oa, none⟩) la ca) W := fun W => by
        rw [← HOA.out, ← HLA.out, ← HCA.out]; exact slB_from b o1 l1 c1 (20 * i) _ (by omega) (by omega) (by omega) (by omega) W
      have hsb : ∀ W : World, (Instr.slice 25 (.slice (some ⟨b, o2, none⟩) l2 c2) (some (.int .i64 ((i : Int) * 4))) none none).run Tryd.prog W = .ok (.slice (some ⟨b, ob, none⟩) lb cb) W := fun W => by
        rw [← HOB.out, ← HLB.out, ← HCB.out]; exact slB_from b o2 l2 c2 (4 * i) _ (by omega) (by omega) (by omega) (by omega) W
      have hsc : ∀ W : World, (Instr.slice 25 (.slice (some ⟨b, o3, none⟩) l3 c3) (some (.int .i64 ((i : Int) * 4))) none none).run Tryd.prog W = .ok (.slice (some ⟨b, oc, none⟩) lc cc) W := fun W => by
        rw [← HOC.out, ← HLC.out, ← HCC.out]; exact slB_from b o3 l3 c3 (4 * i) _ (by omega) (by omega) (by omega) (by omega) W
      have CA : Hid (∀ W, Below F w3 W → Calls Tryd.prog 50 #[.slice (some ⟨b, oa, none⟩) la ca] W fun e w' => e = .returned (.agg RI.toArray) ∧ Below W.heap.size W w') := fun W hW => by
        have := CI.out W (1032 + 20 * i) la ca (HBW.out W hW) (by omega) (by have := HLA.out; omega)
        rw [HI1.out, HRI.out, show off + (1032 + 20 * i) = oa by rw [← HOA.out, ← HO1.out]; omega] at this
        exact this
      have CB : Hid (∀ W, Below F w3 W → Calls Tryd.prog 51 #[.slice (some ⟨b, ob, none⟩) lb cb] W fun e w' => e = .returned (.int .u32 q1) ∧ ∃ n, w' = W.drewN n) := fun W hW => by
        have := CN.out W (1032 + 20 * n + 4 * i) lb cb (HBW.out W hW) (by omega) (by have := HLB.out; omega)
        rw [HQ1.out, show off + (1032 + 20 * n + 4 * i) = ob by rw [← HOB.out, ← HO2.out, ← HO1.out]; omega] at this
        exact this
      have CC : Hid (∀ W, Below F w3 W → Calls Tryd.prog 51 #[.slice (some ⟨b, oc, none⟩) lc cc] W fun e w' => e = .returned (.int .u32 q2) ∧ ∃ n, w' = W.drewN n) := fun W hW => by
        have := CN.out W (1032 + 24 * n + 4 * i) lc cc (HBW.out W hW) (by omega) (by have := HLC.out; omega)
        rw [HQ2.out, show off + (1032 + 24 * n + 4 * i) = oc by rw [← HOC.out, ← HO3.out, ← HO2.out, ← HO1.out]; omega] at this
        exact this
      have hFr : F ≤ wr.heap.size := by have := lt_of_some HFA.out; omega
      go_wp2_with fail
      refine (CA.out wr HBr.out).mono ?_
      rintro ev w5 ⟨rfl, hb5⟩
      have HB5 : Hid (Below F w3 w5) := hid (HBr.out.trans (hb5.mono hFr))
      have HF5 : Hid (Fr w5 F (D ++ p0 :: R)) := hid (HFA.out.below hb5)
      clear hb5 HBr HFA
      have TH : Hid (w5.there F (i * 22) RI.toArray.size) := hid (by rw [List.size_toArray, ← HRI.out, row_len, hI20]; exact fr_there HF5.out HDW.out HDL.out rfl rfl)
      have IA : Hid ((Tryd.prog.info? 24).map (·.size) = some RI.toArray.size) := hid (by rw [List.size_toArray, ← HRI.out, row_len, hI20]; exact Tryd.size24)
      have OA : Hid (RI.toArray.all (·.oneCell') = true) := hid (by rw [← HRI.out]; exact all_oneCell_toArray (row_one _ _))
      obtain ⟨w6, HW6⟩ : ∃ w6, Hid (w5.setCells F (i * 22) RI.toArray.toList = w6) := ⟨_, rfl⟩
      have HB6 : Hid (Below F w3 w6) := hid (by rw [← HW6.out]; exact below_setCells (Nat.le_refl _) _ _ _ _ HB5.out)
      have HF6 : Hid (Fr w6 F (D ++ { p0 with id := I1 } :: R)) := hid (by rw [← HW6.out, ← HRI.out]; exact fr_id HF5.out HDW.out HDL.out rfl hI20 rfl)
      clear HB5 HF5
      go_wp2_with (first
        | (refine wpList_store_mid rfl 24 _ _ rfl F (i * 22) RI.toArray rfl rfl TH.out IA.out OA.out ?_; rw [HW6.out])
        | fail)
      refine (CB.out w6 HB6.out).mono ?_
      rintro ev w7 ⟨rfl, q7, hw7⟩
      have hb7 : Below w6.heap.size w6 w7 := by rw [hw7]; exact below_drewH (Below.refl _ _) _
      clear hw7
      have HB7 : Hid (Below F w3 w7) := hid (HB6.out.trans (hb7.mono (by have := lt_of_some HF6.out; omega)))
      have HF7 : Hid (Fr w7 F (D ++ { p0 with id := I1 } :: R)) := hid (HF6.out.below hb7)
      clear hb7 HB6 HF6
      obtain ⟨c21, f21⟩ := fr_cell (k := 21) (m := i * 22 + 21) (v := .int .u32 0) HF7.out HDW.out HDL.out hI20 (by unfold plV; rw [List.getElem?_append_right (by rw [row_len, hI20]; omega), row_len, hI20]; rfl) rfl
      obtain ⟨w8, HW8⟩ : ∃ w8, Hid (w7.setCell ⟨F, i * 22 + 21, none⟩ (.int .u32 q1) = w8) := ⟨_, rfl⟩
      have HB8 : Hid (Below F w3 w8) := hid (by rw [← HW8.out]; exact HB7.out.setCell (p := ⟨F, i * 22 + 21, none⟩) (Nat.le_refl _) _)
      have HF8 : Hid (Fr w8 F (D ++ { p0 with id := I1, crc := q1 } :: R)) := hid (by rw [← HW8.out]; exact fr_one HF7.out HDW.out HDL.out hI20 (by omega) (set_crc _ hI20 _) rfl)
      clear HB7 HF7
      go_wp2_with fail
      rw [HW8.out]
      refine (CC.out w8 HB8.out).mono ?_
      rintro ev w9 ⟨rfl, q9, hw9⟩
      have hb9 : Below w8.heap.size w8 w9 := by rw [hw9]; exact below_drewH (Below.refl _ _) _
      clear hw9 c21 f21
      have HB9 : Hid (Below F w3 w9) := hid (HB8.out.trans (hb9.mono (by have := lt_of_some HF8.out; omega)))
      have HF9 : Hid (Fr w9 F (D ++ { p0 with id := I1, crc := q1 } :: R)) := hid (HF8.out.below hb9)
      clear hb9 HB8 HF8
      obtain ⟨c20, f20⟩ := fr_cell (k := 20) (m := i * 22 + 20) (v := .int .i64 0) HF9.out HDW.out HDL.out hI20 (by unfold plV; rw [List.getElem?_append_right (by rw [row_len, hI20]; omega), row_len, hI20]; rfl) rfl
      obtain ⟨w10, HW10⟩ : ∃ w8, Hid (w9.setCell ⟨F, i * 22 + 20, none⟩ (.int .i64 q2) = w8) := ⟨_, rfl⟩
      have HB10 : Hid (Below F w3 w10) := hid (by rw [← HW10.out]; exact HB9.out.setCell (p := ⟨F, i * 22 + 20, none⟩) (Nat.le_refl _) _)
      have HF10 : Hid (Fr w10 F (D ++ { p0 with id := I1, off := q2, crc := q1 } :: R)) := hid (by rw [← HW10.out]; exact fr_one HF9.out HDW.out HDL.out hI20 (by omega) (set_off _ hI20 _) rfl)
      clear HB9 HF9
      have hw64 : wrap64 q2 = q2 := by unfold wrap64; omega
      go_wp2
      rw [HW10.out]
      go_roundg (n - (i + 1))
      case measure => omega
      case rel =>
        refine ⟨i + 1, by omega, rfl, by go_num, HB10, hid ?_⟩
        rw [rdP_take B n i hlt, HI1.out, HQ1.out, HQ2.out, HD.out, HR.out, List.append_assoc]
        exact HF10.out
    · have hlti : ¬ (i : Int) < (n : Int) := by omega
      have HFZ : Hid (Fr wr F (rdP B n)) := hid (by
        have := HFr.out
        rw [List.take_of_length_le (by rw [rdP_len]; omega), show n - i = 0 by omega] at this
        simpa using this)
      clear HFr
      have RS : Hid (wr.rangeAt K 0 SU) := hid (range_row ((HBr.out.block K hKF).trans B3.out))
      have R0 : Hid (wr.heap[G]? = some (.cells zr 24 (0, 0))) := hid ((HBr.out.block G hGF).trans HR3.out)
      have hi24 : (Tryd.prog.info? 24).map (·.size) = some SU.length := by rw [HRL.out]; exact Tryd.size24
      have HSS : Hid (RW K G SU.toArray.size SU wr.drew) := hid ⟨RS.out, there_off (show wr.drew.heap[G]? = _ from R0.out) (by rw [← E24.out]; exact Nat.le_refl _)⟩
      have HBd : Hid (Below F w3 wr.drew) := hid (below_drewH HBr.out 1)
      have HFd : Hid (Fr wr.drew F (rdP B n)) := HFZ.out
      clear HBr HFZ RS R0
      go_wp2_with fail
      refine wp_region_held_drew (S := RW K G SU.toArray.size SU) (by kernel_rfl) (by exact HSS.out) (fun hHeld => ?_)
      generalize wr.drew = u0 at hHeld HSS HBd HFd ⊢
      clear HSS
      refine takeL (i := 0) (v := ?_) rfl (by kernel_rfl) (by kernel_rfl) (by kernel_rfl) (fun _ _ _ h => h) (Or.inl ⟨by rfl, ?_⟩) hHeld ?_
      rotate_left
      · rintro w' ⟨r, t⟩; go_simp; rfl
      try simp only [Act.put, List.setIfInBounds_toArray, List.set_cons_zero, List.set_cons_succ]
      refine takeL (i := 1) (v := .agg SU.toArray) rfl (by kernel_rfl) (by kernel_rfl) (by kernel_rfl) (fun _ _ _ h => h) (yieldsIf_load_mid (by kernel_rfl) 24 _ rfl K 0 (by rfl) SU _ (fun w' h => h.r) Tryd.underlying24 rfl hi24) hHeld ?_
      try simp only [Act.put, List.setIfInBounds_toArray, List.set_cons_zero, List.set_cons_succ]
      refine takeL (i := 2) (v := ?_) rfl (by kernel_rfl) (by kernel_rfl) (by kernel_rfl) (fun _ _ _ h => h) (Or.inl ⟨by rfl, ?_⟩) hHeld ?_
      rotate_left
      · rintro w' ⟨r, t⟩; go_simp; rfl
      try simp only [Act.put, List.setIfInBounds_toArray, List.set_cons_zero, List.set_cons_succ]
      refine wpAnyH_ready (rs := [3]) (by kernel_rfl) (by simp) ?_
      refine consL rfl (fun KK hKK => ?_) AllReadyH.nil
      refine step_store (by rfl) 24 _ _ (by rfl) G 0 SU.toArray (by rfl) (by rfl) hHeld.t I24.out O24.out ?_
      have hGK2 : K ≠ G := by omega
      refine hKK.out _ _ ⟨World.rangeAt_setCells_apart hHeld.r G 0 _ (.inl hGK2), World.there_setCells hHeld.t _ _ _⟩ (fun hHeld2 => ?_)
      clear hKK KK
      try simp only [Act.put, List.setIfInBounds_toArray, List.set_cons_zero, List.set_cons_succ]
      refine wpAnyH_done (by kernel_rfl) ?_ _
      have HT : Hid (u0.there G 0 SU.length) := hid (by have := hHeld.t; rwa [List.size_toArray] at this)
      have HFu : Hid (Fr (u0.setCells G 0 SU.toArray.toList) F (rdP B n)) := hid (by
        have h := HFd.out
        unfold Fr at h ⊢
        have hb : Below F u0 (u0.setCells G 0 SU.toArray.toList) ∨ True := .inr trivial
        rw [heap_setCells_ne _ _ _ _ _ (by omega)]
        exact h)
      clear hHeld hHeld2
      go_wp2_with fail
      refine bodyPost_ret (v := .tuple #[.slice (some ⟨F, 0, none⟩) n n, .agg SU.toArray]) (results_t2 Tryd.results34 _ _ G SU _ rfl (World.rangeAt_setCells_same _ G 0 _ HT.out) Tryd.underlying24 rfl hi24) rfl ?_
      refine ⟨F, by rw [HSU.out], ?_, by rw [HG.out]; omega, HFu.out⟩
      rw [HG.out]
      exact below_setCells (Nat.le_refl _) _ _ _ _ (HBW.out _ HBd.out)
end Go.Proofs.YtdfihfmmfmoabaaDoor
