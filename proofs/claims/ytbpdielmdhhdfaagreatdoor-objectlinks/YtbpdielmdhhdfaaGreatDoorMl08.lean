import Derived.Test.YtbpdielmdhhdfaaGreatDoorMl05
import Derived.Test.YtbpdielmdhhdfaaGreatDoorMl06
import Derived.Test.YtbpdielmdhhdfaaGreatDoorMl07
import Derived.Test.YtbpdielmdhhdfaaGreatDoorMl01
namespace Go.Proofs.YtbpdielmdhhdfaaGreatDoor
open Go.RowKit
set_option linter.unusedVariables false
set_option linter.unusedSimpArgs false
theorem list20 : ∀ (fr : List Int), fr.length = 20 → ∃ a0 a1 a2 a3 a4 a5 a6 a7 a8 a9 a10 a11 a12 a13 a14 a15 a16 a17 a18 a19, fr = [a0, a1, a2, a3, a4, a5, a6, a7, a8, a9, a10, a11, a12, a13, a14, a15, a16, a17, a18, a19]
  | [a0, a1, a2, a3, a4, a5, a6, a7, a8, a9, a10, a11, a12, a13, a14, a15, a16, a17, a18, a19], _ => ⟨a0, a1, a2, a3, a4, a5, a6, a7, a8, a9, a10, a11, a12, a13, a14, a15, a16, a17, a18, a19, rfl⟩
def tg0 (fr : List Int) : Tg := ⟨fr, 0, [], ⟨[], [], 0, 0⟩, []⟩
set_option maxRecDepth 20000 in
theorem built71 (fr : List Int) (h : fr.length = 20) : Tryz.prog.built 71 [(0, .agg (row .u8 fr).toArray)] = some (tgV (tg0 fr)).toArray := by
  obtain ⟨a0, a1, a2, a3, a4, a5, a6, a7, a8, a9, a10, a11, a12, a13, a14, a15, a16, a17, a18, a19, rfl⟩ := list20 fr h
  kernel_rfl
set_option maxRecDepth 20000 in
theorem zero71 (w : World) : (zeroValue 71).run Tryz.prog w = .ok (.agg (tgV (tg0 z20)).toArray) w := by kernel_rfl
theorem Tryz.size71 : (Tryz.prog.info? 71).map (·.size) = some 27 := by kernel_rfl
theorem wpList_built {P : Program} {ops : Array Oper} {rest : List Oper} {o : Oper} {a : Act} {w : World} {Q : Exit → Act → World → Prop} (hg : o.guard = none) (t : TypeId) (parts : Array (Nat × Operand)) (ho : o.op = .build t parts) (cells : Array Value)
    (hf : P.built t (parts.map fun (i, x) => (i, a.eval x)).toList = some cells)
    (h : wpList P ops Q rest (a.put o.dst (.agg cells)) w) : wpList P ops Q (o :: rest) a w :=
  wpList_build hg t parts ho (by rw [hf]; rfl) (by rw [hf]; exact h)
theorem tgV_pre (t : Tg) (i : Nat) (v : Value) (h : t.id.length = 20) (hi : 20 ≤ i) : (tgV t).set i v = row .u8 t.id ++ ([.int .i64 t.kind, .string ⟨t.name.toArray⟩, .string ⟨t.per.name.toArray⟩, .string ⟨t.per.mail.toArray⟩, .int .i64 t.per.time, .int .i64 t.per.zone, .string ⟨t.msg.toArray⟩] : List Value).set (i - 20) v := by
  unfold tgV
  have hl : (row .u8 t.id).length = 20 := by rw [row_len]; exact h
  rw [List.set_append_right _ _ (by omega), hl]
theorem tg_set (t : Tg) (h : t.id.length = 20) (w : World) (g : Nat) (hg : w.heap[g]? = some (.cells (tgV t).toArray 71 (0, 0))) (i : Nat) (v : Value) : (w.setCell ⟨g, i, none⟩ v).heap[g]? = some (.cells ((tgV t).set i v).toArray 71 (0, 0)) := by
  rw [heap_setCell_same w g i _ 71 v hg, List.setIfInBounds_toArray]
theorem set_kind (t : Tg) (h : t.id.length = 20) (k : Int) : (tgV t).set 20 (.int .i64 k) = tgV { t with kind := k } := by rw [tgV_pre t 20 _ h (by omega)]; rfl
theorem set_name (t : Tg) (h : t.id.length = 20) (l : List UInt8) : (tgV t).set 21 (.string ⟨l.toArray⟩) = tgV { t with name := l } := by rw [tgV_pre t 21 _ h (by omega)]; rfl
theorem set_msg (t : Tg) (h : t.id.length = 20) (l : List UInt8) : (tgV t).set 26 (.string ⟨l.toArray⟩) = tgV { t with msg := l } := by rw [tgV_pre t 26 _ h (by omega)]; rfl
theorem set_pn (t : Tg) (h : t.id.length = 20) (l : List UInt8) : (tgV t).set 22 (.string ⟨l.toArray⟩) = tgV { t with per := { t.per with name := l } } := by rw [tgV_pre t 22 _ h (by omega)]; rfl
theorem set_pm (t : Tg) (h : t.id.length = 20) (l : List UInt8) : (tgV t).set 23 (.string ⟨l.toArray⟩) = tgV { t with per := { t.per with mail := l } } := by rw [tgV_pre t 23 _ h (by omega)]; rfl
theorem set_pt (t : Tg) (h : t.id.length = 20) (k : Int) : (tgV t).set 24 (.int .i64 k) = tgV { t with per := { t.per with time := k } } := by rw [tgV_pre t 24 _ h (by omega)]; rfl
theorem set_pz (t : Tg) (h : t.id.length = 20) (k : Int) : (tgV t).set 25 (.int .i64 k) = tgV { t with per := { t.per with zone := k } } := by rw [tgV_pre t 25 _ h (by omega)]; rfl
theorem set_per (t : Tg) (h : t.id.length = 20) (p : Per) (w : World) (g : Nat) (hg : w.heap[g]? = some (.cells (tgV t).toArray 71 (0, 0))) : (w.setCells g 22 (perV p).toList).heap[g]? = some (.cells (tgV { t with per := p }).toArray 71 (0, 0)) := by
  have h1 := tg_set t h w g hg 22 (.string ⟨p.name.toArray⟩)
  rw [set_pn t h] at h1
  have h2 := tg_set _ (by exact h) _ g h1 23 (.string ⟨p.mail.toArray⟩)
  rw [set_pm _ (by exact h)] at h2
  have h3 := tg_set _ (by exact h) _ g h2 24 (.int .i64 p.time)
  rw [set_pt _ (by exact h)] at h3
  have h4 := tg_set _ (by exact h) _ g h3 25 (.int .i64 p.zone)
  rw [set_pz _ (by exact h)] at h4
  exact h4
theorem fld_le (s wd : List UInt8) : (fld s wd).length ≤ s.length := by
  have h1 := cut_le1 s [10]
  unfold fld Lib.trimPrefix
  split
  · rw [List.length_drop]; omega
  · exact h1
def rst (s : List UInt8) : List UInt8 := (Lib.cut s [10]).2.1
theorem rst_le (s : List UInt8) : (rst s).length ≤ s.length := cut_le2 s [10]
def wObject : List UInt8 := [111, 98, 106, 101, 99, 116]
def wType : List UInt8 := [116, 121, 112, 101]
def wTag : List UInt8 := [116, 97, 103]
def wTagger : List UInt8 := [116, 97, 103, 103, 101, 114]
def TG (s : List UInt8) (T : Tg) : Prop := PId (fld s wObject) T.id ∧ (∃ k : Nat, T.kind = k ∧ kO ⟨(fld (rst s) wType).toArray⟩ k) ∧ T.name = fld (rst (rst s)) wTag ∧ PP (fld (rst (rst (rst s))) wTagger) T.per ∧ T.msg = rst (rst (rst (rst (rst s))))
def PostO (s : List UInt8) (e : Ending) : Prop := ∃ T, e = .returned (.agg (tgV T).toArray) ∧ TG s T
end Go.Proofs.YtbpdielmdhhdfaaGreatDoor
namespace Go.Proofs.YtbpdielmdhhdfaaGreatDoor
open Go.RowKit
set_option linter.unusedVariables false
set_option linter.unusedSimpArgs false
structure TS (G G4 : Nat) (zr : Array Value) (r : ByteArray) (T : Tg) (w W : World) : Prop where
  below : Below G w W
  box : W.heap[G + 1]? = some (.cells #[.string r] 220 (0, 0))
  tag : W.heap[G4]? = some (.cells (tgV T).toArray 71 (0, 0))
  res : W.heap[G]? = some (.cells zr 71 (0, 0))
theorem TS.rd {G G4 : Nat} {zr : Array Value} {r r' : ByteArray} {T : Tg} {w W W' : World} (h : TS G G4 zr r T w W) (h4 : G + 1 < G4) (hr : Rd (G + 1) r' W W') : TS G G4 zr r' T w W' :=
  ⟨hr.below h.below (by omega) (lt_of_some h.box), hr.box, (hr.block G4 (lt_of_some h.tag) (by omega)).trans h.tag, (hr.block G (lt_of_some h.res) (by omega)).trans h.res⟩
theorem TS.grow {G G4 : Nat} {zr : Array Value} {r : ByteArray} {T : Tg} {w W W' : World} (h : TS G G4 zr r T w W) (hb : Below W.heap.size W W') : TS G G4 zr r T w W' :=
  ⟨h.below.trans (hb.mono (Nat.le_of_lt (lt_of_some h.res))), (hb.block _ (lt_of_some h.box)).trans h.box, (hb.block _ (lt_of_some h.tag)).trans h.tag, (hb.block _ (lt_of_some h.res)).trans h.res⟩
theorem TS.set {G G4 : Nat} {zr : Array Value} {r : ByteArray} {T T' : Tg} {w W : World} (h : TS G G4 zr r T w W) (h4 : G + 1 < G4) (hl : T.id.length = 20) (i : Nat) (v : Value) (he : (tgV T).set i v = tgV T') : TS G G4 zr r T' w (W.setCell ⟨G4, i, none⟩ v) :=
  ⟨h.below.setCell (by show G ≤ G4; omega) _, (heap_setCell_other W ⟨G4, i, none⟩ (G + 1) v (by show G + 1 ≠ G4; omega)).trans h.box, by rw [← he]; exact tg_set T hl W G4 h.tag i v, (heap_setCell_other W ⟨G4, i, none⟩ G v (by show G ≠ G4; omega)).trans h.res⟩
theorem heap_setCells_other (g k : Nat) (h : k ≠ g) : ∀ (vs : List Value) (o : Nat) (w : World), (w.setCells g o vs).heap[k]? = w.heap[k]?
  | [], _, _ => rfl
  | v :: vs, o, w => by
    show ((w.setCell ⟨g, o, none⟩ v).setCells g (o + 1) vs).heap[k]? = _
    rw [heap_setCells_other g k h vs]
    exact heap_setCell_other w ⟨g, o, none⟩ k v h
theorem TS.per {G G4 : Nat} {zr : Array Value} {r : ByteArray} {T : Tg} {w W : World} (h : TS G G4 zr r T w W) (h4 : G + 1 < G4) (hl : T.id.length = 20) (p : Per) : TS G G4 zr r { T with per := p } w (W.setCells G4 22 (perV p).toList) :=
  ⟨below_setCells (by omega) _ _ _ _ h.below, (heap_setCells_other G4 (G + 1) (by omega) _ _ _).trans h.box, set_per T hl p W G4 h.tag, (heap_setCells_other G4 G (by omega) _ _ _).trans h.res⟩
theorem TS.cell {G G4 : Nat} {zr : Array Value} {r : ByteArray} {T : Tg} {w W : World} (h : TS G G4 zr r T w W) (hl : T.id.length = 20) (i : Nat) (hi : i < 27) : ∃ v, W.cell? ⟨G4, i, none⟩ = some v ∧ W.frozen? ⟨G4, i, none⟩ = false := by
  have h1 : (tgV T).toArray[i]? = some ((tgV T)[i]'(by rw [tgV_len T hl]; exact hi)) := by simp [tgV_len T hl, hi]
  exact ⟨_, (cell_of_row W G4 i _ _ _ h.tag).trans h1, frozen_of_row W G4 i _ _ h.tag⟩
theorem tgV_one (T : Tg) : ∀ v ∈ tgV T, v.oneCell' = true := by
  intro v hv
  unfold tgV at hv
  rcases List.mem_append.1 hv with hv | hv
  · exact row_one _ _ v hv
  · simp only [List.mem_cons, List.not_mem_nil, or_false] at hv
    rcases hv with rfl | rfl | rfl | rfl | rfl | rfl | rfl <;> rfl
theorem perV_one (p : Per) : (perV p).all (·.oneCell') = true := by
  show ([.string ⟨p.name.toArray⟩, .string ⟨p.mail.toArray⟩, .int .i64 p.time, .int .i64 p.zone] : List Value).toArray.all (·.oneCell') = true
  refine all_oneCell_toArray (fun v hv => ?_)
  simp only [List.mem_cons, List.not_mem_nil, or_false] at hv
  rcases hv with rfl | rfl | rfl | rfl <;> rfl
theorem there_off {w : World} {g n : Nat} {cs : Array Value} {t : TypeId} (h : w.heap[g]? = some (.cells cs t (0, 0))) (o : Nat) (hn : o + n ≤ cs.size) : w.there g o n := fun j hj => by
  refine ⟨?_, frozen_of_row w g (o + j) _ _ h⟩
  rw [cell_of_row w g (o + j) _ _ _ h, Array.getElem?_eq_getElem (by omega)]
  rfl
set_option maxRecDepth 20000 in
theorem fold71 (fr : List Int) (h : fr.length = 20) : List.foldl (fun (cs : Array Value) (x : Value × Nat) => cs.setIfInBounds x.snd x.fst) (tgV (tg0 z20)).toArray (row .u8 fr).zipIdx = (tgV (tg0 fr)).toArray := by
  obtain ⟨a0, a1, a2, a3, a4, a5, a6, a7, a8, a9, a10, a11, a12, a13, a14, a15, a16, a17, a18, a19, rfl⟩ := list20 fr h
  kernel_rfl
theorem Tryz.results112 : Tryz.f112.results = #[.cell 2 71] := by kernel_rfl
set_option maxRecDepth 20000 in
set_option maxHeartbeats 2000000 in
theorem tagOf_any (s : List UInt8) (hs : s.length ≤ 200000) (w : World) (he : Ers w) (hm : Mx w) : Calls Tryz.prog 112 #[.string ⟨s.toArray⟩] w fun e w' => Below w.heap.size w w' ∧ PostO s e := by
  obtain ⟨S, HS⟩ : ∃ S : ByteArray, Hid (⟨s.toArray⟩ = S) := ⟨_, rfl⟩
  obtain ⟨zr, HZ⟩ : ∃ zr : Array Value, Hid (zr = (tgV (tg0 z20)).toArray) := ⟨_, rfl⟩
  have hz71 := zero71
  rw [← HZ.out] at hz71
  have HZS : Hid (zr.size = 27) := hid (by rw [HZ.out, List.size_toArray]; exact tgV_len _ rfl)
  obtain ⟨G, HG⟩ : ∃ G, Hid (w.heap.size = G) := ⟨_, rfl⟩
  obtain ⟨w1, HW1⟩ : ∃ w1, Hid ((w.alloc (.cells zr 71)).alloc (.cells #[.string S] 220) = w1) := ⟨_, rfl⟩
  have HB1 : Hid (Below G w w1) := hid (by rw [← HW1.out, ← HG.out]; exact ((Below.refl _ w).alloc (Nat.le_refl _) _).alloc (by simp) _)
  have HR1 : Hid (w1.heap[G + 1]? = some (.cells #[.string S] 220 (0, 0))) := hid (by
    rw [← HW1.out, ← HG.out]
    have := heap_alloc_new (w.alloc (.cells zr 71)) (.cells #[.string S] 220)
    simpa using this)
  have HZ1 : Hid (w1.heap[G]? = some (.cells zr 71 (0, 0))) := hid (by
    rw [← HW1.out, ← HG.out]
    have h1 := heap_alloc_new w (.cells zr 71)
    have h2 := ((Below.refl (w.alloc (.cells zr 71)).heap.size (w.alloc (.cells zr 71))).alloc (Nat.le_refl _) (.cells #[.string S] 220)).block w.heap.size (by simp)
    exact h2.trans h1)
  have HE : Hid (∀ W, Below G w W → Ers W) := fun W hW => he.below (by rw [HG.out]; exact hW)
  have HM : Hid (∀ W, Below G w W → Mx W) := fun W hW => hm.below (by rw [HG.out]; exact hW)
  obtain ⟨s1, K1⟩ : ∃ x, Hid (rst s = x) := ⟨_, rfl⟩
  obtain ⟨s2, K2⟩ : ∃ x, Hid (rst s1 = x) := ⟨_, rfl⟩
  obtain ⟨s3, K3⟩ : ∃ x, Hid (rst s2 = x) := ⟨_, rfl⟩
  obtain ⟨s4, K4⟩ : ∃ x, Hid (rst s3 = x) := ⟨_, rfl⟩
  obtain ⟨s5, K5⟩ : ∃ x, Hid (rst s4 = x) := ⟨_, rfl⟩
  have L1 : Hid (s1.length ≤ 200000) := hid (by rw [← K1.out]; exact Nat.le_trans (rst_le _) hs)
  have L2 : Hid (s2.length ≤ 200000) := hid (by rw [← K2.out]; exact Nat.le_trans (rst_le _) L1.out)
  have L3 : Hid (s3.length ≤ 200000) := hid (by rw [← K3.out]; exact Nat.le_trans (rst_le _) L2.out)
  have L4 : Hid (s4.length ≤ 200000) := hid (by rw [← K4.out]; exact Nat.le_trans (rst_le _) L3.out)
  obtain ⟨S1, J1⟩ : ∃ S : ByteArray, Hid (⟨s1.toArray⟩ = S) := ⟨_, rfl⟩
  obtain ⟨S2, J2⟩ : ∃ S : ByteArray, Hid (⟨s2.toArray⟩ = S) := ⟨_, rfl⟩
  obtain ⟨S3, J3⟩ : ∃ S : ByteArray, Hid (⟨s3.toArray⟩ = S) := ⟨_, rfl⟩
  obtain ⟨S4, J4⟩ : ∃ S : ByteArray, Hid (⟨s4.toArray⟩ = S) := ⟨_, rfl⟩
  obtain ⟨S5, J5⟩ : ∃ S : ByteArray, Hid (⟨s5.toArray⟩ = S) := ⟨_, rfl⟩
  obtain ⟨F1, M1⟩ : ∃ S : ByteArray, Hid (⟨(fld s1 wType).toArray⟩ = S) := ⟨_, rfl⟩
  obtain ⟨F2, M2⟩ : ∃ S : ByteArray, Hid (⟨(fld s2 wTag).toArray⟩ = S) := ⟨_, rfl⟩
  obtain ⟨F3, M3⟩ : ∃ S : ByteArray, Hid (⟨(fld s3 wTagger).toArray⟩ = S) := ⟨_, rfl⟩
  have C0 : Hid (Calls Tryz.prog 138 #[.pointer (some ⟨G + 1, 0, none⟩), .string ⟨#[111, 98, 106, 101, 99, 116]⟩] w1 (PostI s wObject (G + 1) w1)) := hid (rid_any s wObject hs (by decide) (Nat.le_trans (fld_le _ _) (by omega)) (G + 1) w1 (by rw [HS.out]; exact HR1.out) (HM.out _ HB1.out))
  have C1 : Hid (∀ W, Below G w W → W.heap[G + 1]? = some (.cells #[.string S1] 220 (0, 0)) → Calls Tryz.prog 141 #[.pointer (some ⟨G + 1, 0, none⟩), .string ⟨#[116, 121, 112, 101]⟩] W fun e w' => e = .returned (.string F1) ∧ Rd (G + 1) S2 W w') := fun W hW hb => by
    rw [← M1.out, ← J2.out, ← K2.out]
    exact rfield_any s1 wType (Nat.le_trans L1.out (by omega)) (by decide) (G + 1) W (by rw [J1.out]; exact hb) (HM.out _ hW)
  have C2 : Hid (∀ W, Below G w W → W.heap[G + 1]? = some (.cells #[.string S2] 220 (0, 0)) → Calls Tryz.prog 141 #[.pointer (some ⟨G + 1, 0, none⟩), .string ⟨#[116, 97, 103]⟩] W fun e w' => e = .returned (.string F2) ∧ Rd (G + 1) S3 W w') := fun W hW hb => by
    rw [← M2.out, ← J3.out, ← K3.out]
    exact rfield_any s2 wTag (Nat.le_trans L2.out (by omega)) (by decide) (G + 1) W (by rw [J2.out]; exact hb) (HM.out _ hW)
  have C3 : Hid (∀ W, Below G w W → W.heap[G + 1]? = some (.cells #[.string S3] 220 (0, 0)) → Calls Tryz.prog 141 #[.pointer (some ⟨G + 1, 0, none⟩), .string ⟨#[116, 97, 103, 103, 101, 114]⟩] W fun e w' => e = .returned (.string F3) ∧ Rd (G + 1) S4 W w') := fun W hW hb => by
    rw [← M3.out, ← J4.out, ← K4.out]
    exact rfield_any s3 wTagger (Nat.le_trans L3.out (by omega)) (by decide) (G + 1) W (by rw [J3.out]; exact hb) (HM.out _ hW)
  have C4 : Hid (∀ W, Below G w W → W.heap[G + 1]? = some (.cells #[.string S4] 220 (0, 0)) → Calls Tryz.prog 142 #[.pointer (some ⟨G + 1, 0, none⟩)] W fun e w' => e = .returned (.string ⟨(Lib.cut s4 [10]).1.toArray⟩) ∧ Rd (G + 1) S5 W w') := fun W hW hb => by
    rw [← J5.out, ← K5.out]
    exact rline_any s4 (Nat.le_trans L4.out (by omega)) (G + 1) W (by rw [J4.out]; exact hb) (HM.out _ hW)
  have CK : Hid (∀ W, Calls Tryz.prog 83 #[.string F1] W fun e w' => (∃ k : Nat, e = .returned (.int .i64 k) ∧ kO F1 k) ∧ w' = W) := fun W => kindOf_any F1 W
  have CP : Hid (∀ W, Below G w W → Calls Tryz.prog 140 #[.string F3] W fun e w' => Below W.heap.size W w' ∧ PostQ (fld s3 wTagger) e) := fun W hW => by
    rw [← M3.out]
    exact personOf_any _ (Nat.le_trans (fld_le _ _) (Nat.le_trans L3.out (by omega))) W (HE.out _ hW) (HM.out _ hW)
  rw [HS.out]
  clear he hm
  go_enter Tryz.func112, Tryz.ntmps112
  go_wp2_with fail
  rw [HG.out, HW1.out]
  refine C0.out.mono ?_
  rintro ev w2 ⟨fr, rfl, hpid, hrd⟩
  have HPI : Hid (PId (fld s wObject) fr) := hpid
  have HFL : Hid (fr.length = 20) := hpid.1
  have HB2 : Hid (Below G w w2) := hrd.below HB1.out (by omega) (lt_of_some HR1.out)
  have HR2 : Hid (w2.heap[G + 1]? = some (.cells #[.string S1] 220 (0, 0))) := hid (by rw [← J1.out, ← K1.out]; exact hrd.box)
  have HZ2 : Hid (w2.heap[G]? = some (.cells zr 71 (0, 0))) := hid ((hrd.block G (lt_of_some HZ1.out) (by omega)).trans HZ1.out)
  clear hpid hrd
  obtain ⟨B, HBB⟩ : ∃ B : Array Value, Hid ((tgV (tg0 fr)).toArray = B) := ⟨_, rfl⟩
  have HBU : Hid (Tryz.prog.built 71 [(0, .agg (row .u8 fr).toArray)] = some B) := hid (by rw [← HBB.out]; exact built71 fr HFL.out)
  have HBS : Hid (B.size = 27) := hid (by rw [← HBB.out, List.size_toArray]; exact tgV_len _ HFL.out)
  have hfold : List.foldl (fun (cs : Array Value) (x : Value × Nat) => cs.setIfInBounds x.snd x.fst) zr (row .u8 fr).zipIdx = B := by rw [HZ.out, ← HBB.out]; exact fold71 fr HFL.out
  have D2 : Hid ((Tryz.prog.info? 71).map (·.size) = some B.size) := hid (by rw [HBS.out]; exact Tryz.size71)
  have D3 : Hid (B.all (·.oneCell') = true) := hid (by rw [← HBB.out]; exact all_oneCell_toArray (tgV_one _))
  have D0 : Hid ((w2.alloc (.cells zr 71)).heap[w2.heap.size]? = some (.cells zr 71 (0, 0))) := heap_alloc_new w2 _
  have D1 : Hid (zr.size = B.size) := hid (by rw [HZS.out, HBS.out])
  have hrl : (row .u8 fr).length = 20 := by rw [row_len]; exact HFL.out
  have hzs : zr.size = 27 := HZS.out
  go_wp2_with (first
    | refine wpList_store_row rfl 71 _ _ rfl w2.heap.size B rfl rfl 71 zr D0.out D2.out D1.out D3.out ?_
    | fail)
  clear hrl hzs hfold hz71
  obtain ⟨G4, HG4⟩ : ∃ G4, Hid (w2.heap.size = G4) := ⟨_, rfl⟩
  have HLT : Hid (G + 1 < G4) := hid (by rw [← HG4.out]; exact lt_of_some HR2.out)
  have TS3 : Hid (TS G G4 zr S1 (tg0 fr) w ((w2.alloc (.cells zr 71)).setRow w2.heap.size B)) := hid (by
    have hlt := HLT.out
    have h4 := HG4.out
    have hb2 := (Below.refl w2.heap.size w2).alloc (Nat.le_refl _) (.cells zr 71)
    refine ⟨below_setRow (HB2.out.alloc (by omega) _) (by omega) B, ?_, ?_, ?_⟩
    · rw [setRow_other _ _ _ _ (by omega)]
      exact (hb2.block _ (by omega)).trans HR2.out
    · rw [← h4, HBB.out]
      exact setRow_heap _ _ _ B _ _ D0.out
    · rw [setRow_other _ _ _ _ (by omega)]
      exact (hb2.block _ (by omega)).trans HZ2.out)
  rw [HG4.out] at TS3
  rw [HG4.out]
  generalize (w2.alloc (.cells zr 71)).setRow G4 B = w3 at TS3 ⊢
  refine (C1.out w3 TS3.out.below TS3.out.box).mono ?_
  rintro ev w4 ⟨rfl, hrd⟩
  have TS4 : Hid (TS G G4 zr S2 (tg0 fr) w w4) := TS3.out.rd HLT.out hrd
  clear hrd
  go_wp2_with fail
  refine (CK.out w4).mono ?_
  rintro ev w4' ⟨⟨k, rfl, hk⟩, hw4⟩
  have hw4' := hw4.symm
  subst hw4'
  have HKO : Hid (kO F1 k) := hk
  clear hk hw4
  obtain ⟨v20, c20, f20⟩ := TS4.out.cell HFL.out 20 (by omega)
  go_wp2_with fail
  have TS5 : Hid (TS G G4 zr S2 { tg0 fr with kind := k } w (w4.setCell ⟨G4, 20, none⟩ (.int .i64 k))) := TS4.out.set HLT.out HFL.out 20 _ (set_kind (tg0 fr) HFL.out k)
  clear c20 f20
  generalize w4.setCell ⟨G4, 20, none⟩ (.int .i64 k) = w5 at TS5 ⊢
  refine (C2.out w5 TS5.out.below TS5.out.box).mono ?_
  rintro ev w6 ⟨rfl, hrd⟩
  have TS6 : Hid (TS G G4 zr S3 { tg0 fr with kind := k } w w6) := TS5.out.rd HLT.out hrd
  clear hrd
  obtain ⟨v21, c21, f21⟩ := TS6.out.cell HFL.out 21 (by omega)
  go_wp2_with fail
  have TS7 : Hid (TS G G4 zr S3 { tg0 fr with kind := k, name := fld s2 wTag } w (w6.setCell ⟨G4, 21, none⟩ (.string F2))) := TS6.out.set HLT.out HFL.out 21 _ (by rw [← M2.out]; exact set_name { tg0 fr with kind := k } HFL.out _)
  clear c21 f21
  generalize w6.setCell ⟨G4, 21, none⟩ (.string F2) = w7 at TS7 ⊢
  refine (C3.out w7 TS7.out.below TS7.out.box).mono ?_
  rintro ev w8 ⟨rfl, hrd⟩
  have TS8 : Hid (TS G G4 zr S4 { tg0 fr with kind := k, name := fld s2 wTag } w w8) := TS7.out.rd HLT.out hrd
  clear hrd
  go_wp2_with fail
  refine (CP.out w8 TS8.out.below).mono ?_
  rintro ev w9 ⟨hb9, pr, rfl, hpp⟩
  have HPP : Hid (PP (fld s3 wTagger) pr) := hpp
  have TS9 : Hid (TS G G4 zr S4 { tg0 fr with kind := k, name := fld s2 wTag } w w9) := TS8.out.grow hb9
  clear hb9 hpp
  have E1 : Hid (w9.there G4 22 (perV pr).size) := there_off TS9.out.tag 22 (by
    have h := tgV_len ({ tg0 fr with kind := k, name := fld s2 wTag } : Tg) HFL.out
    exact Nat.le_trans (show 22 + 4 ≤ 27 by omega) (Nat.le_of_eq h.symm))
  have E2 : Hid ((Tryz.prog.info? 58).map (·.size) = some (perV pr).size) := Tryz.size58
  have E3 : Hid ((perV pr).all (·.oneCell') = true) := perV_one pr
  go_wp2_with (first
    | refine wpList_store_mid rfl 58 _ _ rfl G4 22 (perV pr) rfl rfl E1.out E2.out E3.out ?_
    | fail)
  have TSA : Hid (TS G G4 zr S4 { tg0 fr with kind := k, name := fld s2 wTag, per := pr } w (w9.setCells G4 22 (perV pr).toList)) := TS9.out.per HLT.out HFL.out pr
  generalize w9.setCells G4 22 (perV pr).toList = w10 at TSA ⊢
  refine (C4.out w10 TSA.out.below TSA.out.box).mono ?_
  rintro ev w11 ⟨rfl, hrd⟩
  have TSB : Hid (TS G G4 zr S5 { tg0 fr with kind := k, name := fld s2 wTag, per := pr } w w11) := TSA.out.rd HLT.out hrd
  clear hrd
  obtain ⟨v26, c26, f26⟩ := TSB.out.cell HFL.out 26 (by omega)
  have cr : w11.cell? ⟨G + 1, 0, none⟩ = some (.string S5) := by rw [cell_of_row w11 (G + 1) 0 _ _ _ TSB.out.box]; rfl
  obtain ⟨T, HT⟩ : ∃ T : Tg, Hid (T = ⟨fr, k, fld s2 wTag, pr, s5⟩) := ⟨_, rfl⟩
  have TSC : Hid (TS G G4 zr S5 T w (w11.setCell ⟨G4, 26, none⟩ (.string S5))) := TSB.out.set HLT.out HFL.out 26 _ (by rw [← J5.out, HT.out]; exact set_msg { tg0 fr with kind := k, name := fld s2 wTag, per := pr } HFL.out _)
  have HTL : Hid (T.id.length = 20) := hid (by rw [HT.out]; exact HFL.out)
  obtain ⟨TV, HTV⟩ : ∃ l : List Value, Hid (tgV T = l) := ⟨_, rfl⟩
  have HVL : Hid (TV.length = 27) := hid (by rw [← HTV.out]; exact tgV_len T HTL.out)
  have CT : Hid ((w11.setCell ⟨G4, 26, none⟩ (.string S5)).rangeAt G4 0 TV) := hid (by rw [← HTV.out]; exact range_row TSC.out.tag)
  have CS : Hid ((w11.setCell ⟨G4, 26, none⟩ (.string S5)).there G 0 TV.toArray.size) := hid (there_off TSC.out.res 0 (by rw [List.size_toArray, HVL.out, HZS.out]; omega))
  have CS' : Hid ((w11.setCell ⟨G4, 26, none⟩ (.string S5)).there G 0 TV.length) := hid (there_off TSC.out.res 0 (by rw [HVL.out, HZS.out]; omega))
  have hi71 : (Tryz.prog.info? 71).map (·.size) = some TV.length := by rw [HVL.out]; exact Tryz.size71
  have CI : Hid ((Tryz.prog.info? 71).map (·.size) = some TV.toArray.size) := hid (by rw [List.size_toArray]; exact hi71)
  have CO : Hid (TV.toArray.all (·.oneCell') = true) := hid (by rw [← HTV.out]; exact all_oneCell_toArray (tgV_one T))
  go_wp2_with (first
    | refine wpList_load_mid rfl 71 _ rfl G4 0 rfl TV _ CT.out Tryz.underlying71 rfl hi71 ?_
    | refine wpList_store_mid rfl 71 _ _ rfl G 0 TV.toArray rfl rfl CS.out CI.out CO.out ?_)
  refine bodyPost_ret (v := .agg TV.toArray) (results_mid Tryz.results112 _ _ G TV _ rfl (World.rangeAt_setCells_same _ G 0 _ CS'.out) Tryz.underlying71 rfl hi71) rfl ⟨?_, ?_⟩
  · rw [HG.out]
    exact below_setCells (Nat.le_refl _) _ _ _ _ TSC.out.below
  · refine ⟨T, by rw [HTV.out], ?_⟩
    rw [HT.out]
    refine ⟨HPI.out, ⟨k, rfl, ?_⟩, ?_, ?_, ?_⟩
    · rw [K1.out, M1.out]; exact HKO.out
    · rw [K1.out, K2.out]
    · rw [K1.out, K2.out, K3.out]; exact HPP.out
    · rw [K1.out, K2.out, K3.out, K4.out, K5.out]
end Go.Proofs.YtbpdielmdhhdfaaGreatDoor
namespace Go.Proofs.YtbpdielmdhhdfaaGreatDoor
open Go.RowKit
set_option linter.unusedVariables false
set_option linter.unusedSimpArgs false
theorem results_mid2 {P : Program} {fn : Func} {p q : Tmp} {ty : TypeId} (h : fn.results = #[.cell p ty, .tmp q]) (tmps : Array Value) (w : World) (g : Nat) (cs : List Value) (d : TypeDesc)
    (hp : tmps.getD p undef = .pointer (some ⟨g, 0, none⟩)) (hc : w.rangeAt g 0 cs) (hu : P.underlying ty = some d) (hd : d.isRow = true) (hi : (P.info? ty).map (·.size) = some cs.length) :
    (results fn tmps).run P w = .ok (.tuple #[.agg cs.toArray, tmps.getD q undef]) w := by
  have hp' : tmps[p]?.getD undef = .pointer (some ⟨g, 0, none⟩) := by simpa using hp
  simp [results, h, hp', asAddr, run_loadVar_mid w g 0 ty cs d hc hu hd hi]
def errV (n : Int) : Value := if n = 0 then .nilIface else .iface 35 (.int .i64 n)
end Go.Proofs.YtbpdielmdhhdfaaGreatDoor
namespace Go.Proofs.YtbpdielmdhhdfaaGreatDoor
open Go.RowKit
set_option linter.unusedVariables false
set_option linter.unusedSimpArgs false
theorem equal_any (a a2 : Option Addr) (cap cap2 : Nat) (zs ys : List Int) (w : World) (hS : Sl w a cap zs) (hS2 : Sl w a2 cap2 ys) :
    Calls Tryz.prog 124 #[.slice a zs.length cap, .slice a2 ys.length cap2] w fun e w' => e = .returned (.bool (Lib.bytesOf zs == Lib.bytesOf ys)) ∧ w' = w :=
  Any.bytes_Equal_all Tryz.laysb115 a a2 zs.length cap ys.length cap2 zs ys w rfl rfl hS.bytesIn hS2.bytesIn
def PostB (l : List UInt8) (e : Ending) : Prop := ∃ T, TG l T ∧ (((okG T ∧ tagB T = l) ∧ e = .returned (.tuple #[.agg (tgV T).toArray, .nilIface])) ∨ (¬ (okG T ∧ tagB T = l) ∧ e = .returned (.tuple #[.agg (tgV (tg0 z20)).toArray, .iface 35 (.int .i64 23)])))
theorem Tryz.results111 : Tryz.f111.results = #[.cell 8 71, .tmp 9] := by kernel_rfl
theorem Tryz.results67 : Tryz.f67.results = #[.cell 2 71, .tmp 3] := by kernel_rfl
theorem TG.lens {l : List UInt8} {T : Tg} (h : TG l T) : T.name.length ≤ l.length ∧ T.per.name.length ≤ l.length ∧ T.per.mail.length ≤ l.length ∧ T.msg.length ≤ l.length := by
  obtain ⟨_, _, h3, h4, h5⟩ := h
  have r1 := rst_le l
  have r2 := rst_le (rst l)
  have r3 := rst_le (rst (rst l))
  have r4 := rst_le (rst (rst (rst l)))
  have r5 := rst_le (rst (rst (rst (rst l))))
  have f2 := fld_le (rst (rst l)) wTag
  have f3 := fld_le (rst (rst (rst l))) wTagger
  have h41 := h4.1
  have h42 := h4.2.1
  rw [h3, h5]
  omega
set_option maxRecDepth 20000 in
set_option maxHeartbeats 2000000 in
theorem readBack_any (a : Option Addr) (cap : Nat) (zs : List Int) (hl : zs.length ≤ 200000) (hz : IsB zs) (w : World) (ht : Tab w) (he : Ers w) (hm : Mx w) (hS : Sl w a cap zs) :
    Calls Tryz.prog 111 #[.slice a zs.length cap, .int .i64 23, .func (.func 112) #[] #[], .func (.func 26) #[] #[]] w fun e w' => Below w.heap.size w w' ∧ PostB (Lib.bytesOf zs) e := by
  obtain ⟨ZV, HZ⟩ : ∃ l : List Value, Hid (l = tgV (tg0 z20)) := ⟨_, rfl⟩
  have hz71 := zero71
  rw [← HZ.out] at hz71
  have HZL : Hid (ZV.length = 27) := hid (by rw [HZ.out]; exact tgV_len _ rfl)
  have hi71z : (Tryz.prog.info? 71).map (·.size) = some ZV.length := by rw [HZL.out]; exact Tryz.size71
  have FI : Hid ((Tryz.prog.info? 71).map (·.size) = some ZV.toArray.size) := hid (by rw [List.size_toArray]; exact hi71z)
  have FO : Hid (ZV.toArray.all (·.oneCell') = true) := hid (by rw [HZ.out]; exact all_oneCell_toArray (tgV_one _))
  obtain ⟨n, HN⟩ : ∃ n, Hid (zs.length = n) := ⟨_, rfl⟩
  obtain ⟨l, HL⟩ : ∃ l, Hid (Lib.bytesOf zs = l) := ⟨_, rfl⟩
  have HLL : Hid (l.length ≤ 200000) := hid (by rw [← HL.out, Lib.bytesOf_length]; exact hl)
  obtain ⟨S, HSS⟩ : ∃ S : ByteArray, Hid (⟨l.toArray⟩ = S) := ⟨_, rfl⟩
  obtain ⟨G, HG⟩ : ∃ G, Hid (w.heap.size = G) := ⟨_, rfl⟩
  obtain ⟨w0, HW0⟩ : ∃ w0, Hid (w.alloc (.cells ZV.toArray 71) = w0) := ⟨_, rfl⟩
  have HB0 : Hid (Below G w w0) := hid (by rw [← HW0.out, ← HG.out]; exact (Below.refl _ w).alloc (Nat.le_refl _) _)
  have HR0 : Hid (w0.heap[G]? = some (.cells ZV.toArray 71 (0, 0))) := hid (by rw [← HW0.out, ← HG.out]; exact heap_alloc_new w _)
  have HCV : Hid ((convert 23 9 (.slice a n cap)).run Tryz.prog (w.alloc (.cells ZV.toArray 71)) = .ok (.string S) (w.alloc (.cells ZV.toArray 71))) := hid (by
    rw [← HSS.out, ← HL.out, ← HN.out]
    exact conv_str (hS.below (by rw [HW0.out, HG.out]; exact HB0.out)))
  have HT : Hid (∀ W, Below G w W → Tab W) := fun W hW => ht.below (by rw [HG.out]; exact hW)
  have HSL : Hid (∀ W, Below G w W → Sl W a cap zs) := fun W hW => hS.below (by rw [HG.out]; exact hW)
  have C1 : Hid (Calls Tryz.prog 112 #[.string S] w0 fun e w' => Below w0.heap.size w0 w' ∧ PostO l e) := hid (by
    rw [← HSS.out]
    exact tagOf_any l HLL.out w0 (he.below (by rw [HG.out]; exact HB0.out)) (hm.below (by rw [HG.out]; exact HB0.out)))
  rw [HN.out, HL.out]
  clear ht he hm hS
  have hcv := HCV.out
  go_enter Tryz.func111, Tryz.ntmps111
  go_wp2_with fail
  rw [HG.out, HW0.out]
  clear hcv HCV
  refine C1.out.mono ?_
  rintro ev w1 ⟨hb1, T, rfl, htg⟩
  have HTG : Hid (TG l T) := htg
  have HB1 : Hid (Below G w w1) := HB0.out.trans (hb1.mono (Nat.le_of_lt (lt_of_some HR0.out)))
  have HR1 : Hid (w1.heap[G]? = some (.cells ZV.toArray 71 (0, 0))) := hid ((hb1.block G (lt_of_some HR0.out)).trans HR0.out)
  have HID : Hid (T.id.length = 20) := htg.1.1
  clear htg hb1
  obtain ⟨TV, HTV⟩ : ∃ l : List Value, Hid (tgV T = l) := ⟨_, rfl⟩
  rw [HTV.out]
  have HVL : Hid (TV.length = 27) := hid (by rw [← HTV.out]; exact tgV_len T HID.out)
  have hi71 : (Tryz.prog.info? 71).map (·.size) = some TV.length := by rw [HVL.out]; exact Tryz.size71
  have CI : Hid ((Tryz.prog.info? 71).map (·.size) = some TV.toArray.size) := hid (by rw [List.size_toArray]; exact hi71)
  have CO : Hid (TV.toArray.all (·.oneCell') = true) := hid (by rw [← HTV.out]; exact all_oneCell_toArray (tgV_one T))
  have D0 : Hid ((w1.alloc (.cells ZV.toArray 71)).heap[w1.heap.size]? = some (.cells ZV.toArray 71 (0, 0))) := heap_alloc_new w1 _
  have D1 : Hid (ZV.toArray.size = TV.toArray.size) := hid (by rw [List.size_toArray, List.size_toArray, HZL.out, HVL.out])
  have D4 : Hid (((w1.alloc (.cells ZV.toArray 71)).setRow w1.heap.size TV.toArray).rangeAt w1.heap.size 0 TV) := hid (range_row (setRow_heap _ _ _ TV.toArray _ _ D0.out))
  go_wp2_with (first
    | refine wpList_store_row rfl 71 _ _ rfl w1.heap.size TV.toArray rfl rfl 71 ZV.toArray D0.out CI.out D1.out CO.out ?_
    | refine wpList_load_mid rfl 71 _ rfl w1.heap.size 0 rfl TV _ D4.out Tryz.underlying71 rfl hi71 ?_
    | fail)
  obtain ⟨H, HH⟩ : ∃ H, Hid (w1.heap.size = H) := ⟨_, rfl⟩
  have HGH : Hid (G < H) := hid (by rw [← HH.out]; exact lt_of_some HR1.out)
  obtain ⟨w2, HW2⟩ : ∃ w2, Hid ((w1.alloc (.cells ZV.toArray 71)).setRow w1.heap.size TV.toArray = w2) := ⟨_, rfl⟩
  have HB2 : Hid (Below G w w2) := hid (by rw [← HW2.out]; exact below_setRow (HB1.out.alloc (by rw [HH.out]; have := HGH.out; omega) _) (by rw [HH.out]; have := HGH.out; omega) _)
  have HR2 : Hid (w2.heap[G]? = some (.cells ZV.toArray 71 (0, 0))) := hid (by
    have hb2 := (Below.refl w1.heap.size w1).alloc (Nat.le_refl _) (.cells ZV.toArray 71)
    rw [← HW2.out, setRow_other _ _ _ _ (by rw [HH.out]; have := HGH.out; omega)]
    exact (hb2.block _ (by rw [HH.out]; exact HGH.out)).trans HR1.out)
  have HV2 : Hid (w2.heap[H]? = some (.cells TV.toArray 71 (0, 0))) := hid (by rw [← HW2.out, ← HH.out]; exact setRow_heap _ _ _ TV.toArray _ _ D0.out)
  rw [HW2.out, HH.out]
  clear hz71
  have hz71 : ∀ w : World, (zeroValue 71).run Tryz.prog w = .ok (.agg ZV.toArray) w := fun w => by rw [HZ.out]; exact zero71 w
  have C2 : Hid (Calls Tryz.prog 26 #[.agg TV.toArray] w2 (PostT T w2)) := hid (by
    rw [← HTV.out]
    have hln := HTG.out.lens
    have h2 := HLL.out
    exact writeTag_any T HID.out HTG.out.1.2.1 (by omega) (by omega) w2 (HT.out _ HB2.out))
  refine C2.out.mono ?_
  rintro ev w3 ⟨hb3, hor⟩
  have HB3 : Hid (Below G w w3) := HB2.out.trans (hb3.mono (Nat.le_of_lt (lt_of_some HR2.out)))
  have HR3 : Hid (w3.heap[G]? = some (.cells ZV.toArray 71 (0, 0))) := hid ((hb3.block G (lt_of_some HR2.out)).trans HR2.out)
  have HV3 : Hid (w3.heap[H]? = some (.cells TV.toArray 71 (0, 0))) := hid ((hb3.block H (lt_of_some HV2.out)).trans HV2.out)
  have FL : Hid ((w3.alloc (.cells ZV.toArray 71)).rangeAt w3.heap.size 0 ZV) := hid (range_row (heap_alloc_new w3 _))
  have HR4 : Hid ((w3.alloc (.cells ZV.toArray 71)).heap[G]? = some (.cells ZV.toArray 71 (0, 0))) := hid ((((Below.refl w3.heap.size w3).alloc (Nat.le_refl _) (.cells ZV.toArray 71)).block G (lt_of_some HR3.out)).trans HR3.out)
  have FS : Hid ((w3.alloc (.cells ZV.toArray 71)).there G 0 ZV.toArray.size) := hid (there_off HR4.out 0 (by omega))
  have FS' : Hid ((w3.alloc (.cells ZV.toArray 71)).there G 0 ZV.length) := hid (there_off HR4.out 0 (by rw [List.size_toArray]; omega))
  have BAD : Hid (¬ (okG T ∧ tagB T = l) → (Below w.heap.size w ((w3.alloc (.cells ZV.toArray 71)).setCells G 0 ZV) ∧ PostB l (.returned (.tuple #[.agg ZV.toArray, .iface 35 (.int .i64 23)])))) := fun hno => by
    refine ⟨by rw [HG.out]; exact below_setCells (Nat.le_refl _) _ _ _ _ (HB3.out.alloc (Nat.le_of_lt (lt_of_some HR3.out)) _), T, HTG.out, .inr ⟨hno, ?_⟩⟩
    rw [HZ.out]
  clear hb3
  rcases hor with ⟨hok, g, cp, rfl, hge, hmk⟩ | ⟨hno, rfl⟩
  rotate_left
  · have HNO : Hid (¬ (okG T ∧ tagB T = l)) := fun h => hno h.1
    clear hno
    go_wp2_with (first
      | refine wpList_load_mid rfl 71 _ rfl w3.heap.size 0 rfl ZV _ FL.out Tryz.underlying71 rfl hi71z ?_
      | refine wpList_store_mid rfl 71 _ _ rfl G 0 ZV.toArray rfl rfl FS.out FI.out FO.out ?_)
    refine bodyPost_ret (v := .tuple #[.agg ZV.toArray, .iface 35 (.int .i64 23)]) (results_mid2 Tryz.results111 _ _ G ZV _ rfl (World.rangeAt_setCells_same _ G 0 _ FS'.out) Tryz.underlying71 rfl hi71z) rfl ?_
    exact BAD.out HNO.out
  have HOK : Hid (okG T) := hok
  have HMK : Hid (Mk w3 g cp (nums (tagB T))) := hmk
  clear hok hmk hge
  obtain ⟨eq, HEQ⟩ : ∃ b : Bool, Hid ((tagB T == l) = b) := ⟨_, rfl⟩
  obtain ⟨tl, HTL⟩ : ∃ k, Hid ((tagB T).length = k) := ⟨_, rfl⟩
  have CE : Hid (Calls Tryz.prog 124 #[.slice (some ⟨g, 0, none⟩) tl cp, .slice a n cap] w3 fun e w' => e = .returned (.bool eq) ∧ w' = w3) := hid (by
    have h := equal_any (some ⟨g, 0, none⟩) a cp cap (nums (tagB T)) zs w3 HMK.out.sl (HSL.out _ HB3.out)
    rw [nums_len, HTL.out, bytesOf_nums, HL.out, HEQ.out, HN.out] at h
    exact h)
  rw [HTL.out]
  go_wp2_with fail
  refine CE.out.mono ?_
  rintro ev w3' ⟨rfl, hw3⟩
  have hw3' := hw3.symm
  subst hw3'
  clear hw3
  cases eq with
  | false =>
    have HNO : Hid (¬ (okG T ∧ tagB T = l)) := fun h => by have h2 := HEQ.out; rw [h.2] at h2; simp at h2
    go_wp2_with (first
      | refine wpList_load_mid rfl 71 _ rfl w3.heap.size 0 rfl ZV _ FL.out Tryz.underlying71 rfl hi71z ?_
      | refine wpList_store_mid rfl 71 _ _ rfl G 0 ZV.toArray rfl rfl FS.out FI.out FO.out ?_)
    refine bodyPost_ret (v := .tuple #[.agg ZV.toArray, .iface 35 (.int .i64 23)]) (results_mid2 Tryz.results111 _ _ G ZV _ rfl (World.rangeAt_setCells_same _ G 0 _ FS'.out) Tryz.underlying71 rfl hi71z) rfl ?_
    exact BAD.out HNO.out
  | true =>
    have HYE : Hid (tagB T = l) := hid (by have h2 := HEQ.out; simpa using h2)
    have GL : Hid (w3.rangeAt H 0 TV) := hid (range_row HV3.out)
    have GS : Hid (w3.there G 0 TV.toArray.size) := hid (there_off HR3.out 0 (by rw [← D1.out]; omega))
    have GS' : Hid (w3.there G 0 TV.length) := hid (there_off HR3.out 0 (by rw [List.size_toArray, HZL.out, HVL.out]; omega))
    go_wp2_with (first
      | refine wpList_load_mid rfl 71 _ rfl H 0 rfl TV _ GL.out Tryz.underlying71 rfl hi71 ?_
      | refine wpList_store_mid rfl 71 _ _ rfl G 0 TV.toArray rfl rfl GS.out CI.out CO.out ?_)
    refine bodyPost_ret (v := .tuple #[.agg TV.toArray, .nilIface]) (results_mid2 Tryz.results111 _ _ G TV _ rfl (World.rangeAt_setCells_same _ G 0 _ GS'.out) Tryz.underlying71 rfl hi71) rfl ⟨?_, ?_⟩
    · rw [HG.out]
      exact below_setCells (Nat.le_refl _) _ _ _ _ HB3.out
    · exact ⟨T, HTG.out, .inl ⟨⟨HOK.out, HYE.out⟩, by rw [HTV.out]⟩⟩
theorem PostB.form {l : List UInt8} {e : Ending} (h : PostB l e) : ∃ (X : Tg) (ev : Value), e = .returned (.tuple #[.agg (tgV X).toArray, ev]) ∧ X.id.length = 20 := by
  obtain ⟨T, htg, ⟨_, rfl⟩ | ⟨_, rfl⟩⟩ := h
  · exact ⟨T, _, rfl, htg.1.1⟩
  · exact ⟨tg0 z20, _, rfl, rfl⟩
set_option maxRecDepth 20000 in
set_option maxHeartbeats 1000000 in
theorem readTag_any (a : Option Addr) (cap : Nat) (zs : List Int) (hl : zs.length ≤ 200000) (hz : IsB zs) (w : World) (ht : Tab w) (he : Ers w) (hm : Mx w) (hS : Sl w a cap zs) :
    Calls Tryz.prog 67 #[.slice a zs.length cap] w fun e w' => Below w.heap.size w w' ∧ PostB (Lib.bytesOf zs) e := by
  obtain ⟨ZV, HZ⟩ : ∃ l : List Value, Hid (l = tgV (tg0 z20)) := ⟨_, rfl⟩
  have hz71 := zero71
  rw [← HZ.out] at hz71
  have HZL : Hid (ZV.length = 27) := hid (by rw [HZ.out]; exact tgV_len _ rfl)
  obtain ⟨n, HN⟩ : ∃ n, Hid (zs.length = n) := ⟨_, rfl⟩
  obtain ⟨G, HG⟩ : ∃ G, Hid (w.heap.size = G) := ⟨_, rfl⟩
  obtain ⟨w0, HW0⟩ : ∃ w0, Hid (w.alloc (.cells ZV.toArray 71) = w0) := ⟨_, rfl⟩
  have HB0 : Hid (Below G w w0) := hid (by rw [← HW0.out, ← HG.out]; exact (Below.refl _ w).alloc (Nat.le_refl _) _)
  have HR0 : Hid (w0.heap[G]? = some (.cells ZV.toArray 71 (0, 0))) := hid (by rw [← HW0.out, ← HG.out]; exact heap_alloc_new w _)
  have C1 : Hid (Calls Tryz.prog 111 #[.slice a n cap, .int .i64 23, .func (.func 112) #[] #[], .func (.func 26) #[] #[]] w0 fun e w' => Below w0.heap.size w0 w' ∧ PostB (Lib.bytesOf zs) e) := hid (by
    have hb : Below w.heap.size w w0 := by rw [HG.out]; exact HB0.out
    rw [← HN.out]
    exact readBack_any a cap zs hl hz w0 (ht.below hb) (he.below hb) (hm.below hb) (hS.below hb))
  rw [HN.out]
  clear ht he hm hS
  go_enter Tryz.func67, Tryz.ntmps67
  go_wp2_with fail
  rw [HG.out, HW0.out]
  refine C1.out.mono ?_
  rintro ev w1 ⟨hb1, hpb⟩
  obtain ⟨X, ev2, rfl, hx⟩ := hpb.form
  have HPB : Hid (PostB (Lib.bytesOf zs) (.returned (.tuple #[.agg (tgV X).toArray, ev2]))) := hpb
  have HB1 : Hid (Below G w w1) := HB0.out.trans (hb1.mono (Nat.le_of_lt (lt_of_some HR0.out)))
  have HR1 : Hid (w1.heap[G]? = some (.cells ZV.toArray 71 (0, 0))) := hid ((hb1.block G (lt_of_some HR0.out)).trans HR0.out)
  have HID : Hid (X.id.length = 20) := hx
  clear hpb hb1 hx
  obtain ⟨TV, HTV⟩ : ∃ l : List Value, Hid (tgV X = l) := ⟨_, rfl⟩
  rw [HTV.out] at HPB
  rw [HTV.out]
  have HVL : Hid (TV.length = 27) := hid (by rw [← HTV.out]; exact tgV_len X HID.out)
  have hi71 : (Tryz.prog.info? 71).map (·.size) = some TV.length := by rw [HVL.out]; exact Tryz.size71
  have CI : Hid ((Tryz.prog.info? 71).map (·.size) = some TV.toArray.size) := hid (by rw [List.size_toArray]; exact hi71)
  have CO : Hid (TV.toArray.all (·.oneCell') = true) := hid (by rw [← HTV.out]; exact all_oneCell_toArray (tgV_one X))
  have GS : Hid (w1.there G 0 TV.toArray.size) := hid (there_off HR1.out 0 (by rw [List.size_toArray, List.size_toArray, HZL.out, HVL.out]; omega))
  have GS' : Hid (w1.there G 0 TV.length) := hid (there_off HR1.out 0 (by rw [List.size_toArray, HZL.out, HVL.out]; omega))
  go_wp2_with (refine wpList_store_mid rfl 71 _ _ rfl G 0 TV.toArray rfl rfl GS.out CI.out CO.out ?_)
  refine bodyPost_ret (v := .tuple #[.agg TV.toArray, ev2]) (results_mid2 Tryz.results67 _ _ G TV _ rfl (World.rangeAt_setCells_same _ G 0 _ GS'.out) Tryz.underlying71 rfl hi71) rfl ⟨?_, HPB.out⟩
  rw [HG.out]
  exact below_setCells (Nat.le_refl _) _ _ _ _ HB1.out
end Go.Proofs.YtbpdielmdhhdfaaGreatDoor
