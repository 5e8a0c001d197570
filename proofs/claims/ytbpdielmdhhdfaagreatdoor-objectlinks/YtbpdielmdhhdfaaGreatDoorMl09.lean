import Derived.Test.YtbpdielmdhhdfaaGreatDoorMl08
import Derived.Maps.OwnSet
import Derived.Maps.OwnOps
import Derived.DeepKeys4
import Derived.Test.YtbpdielmdhhdfaaGreatDoorMl01
import Derived.Test.YtbpdielmdhhdfaaGreatDoorMl05
import Derived.Maps.AppendAt
namespace Go.Proofs.YtbpdielmdhhdfaaGreatDoor
open Go.RowKit
set_option linter.unusedVariables false
set_option linter.unusedSimpArgs false
def WfI (ids : List (List Int)) : Prop := ∀ x ∈ ids, x.length = 20 ∧ ∀ n ∈ x, 0 ≤ n ∧ n < 256
structure Pa (w : World) (a : Option Addr) (cap : Nat) (ids : List (List Int)) : Prop where
  capl : ids.length ≤ cap
  at_ : 0 < ids.length → ∃ b off, a = some ⟨b, off, none⟩ ∧ b < w.heap.size ∧ ∀ i, i < ids.length → w.rangeAt b (off + i * 20) (row .u8 (ids.getD i []))
  nil : a = none → cap = 0
theorem Pa.below {w w' : World} {a : Option Addr} {cap : Nat} {ids : List (List Int)} (h : Pa w a cap ids) (hb : Below w.heap.size w w') : Pa w' a cap ids :=
  ⟨h.capl, fun h0 => by
    obtain ⟨b, off, e1, e2, e3⟩ := h.at_ h0
    exact ⟨b, off, e1, Nat.lt_of_lt_of_le e2 hb.size, fun i hi j v hv => (hb.cell (p := ⟨b, off + i * 20 + j, none⟩) e2).trans (e3 i hi j v hv)⟩, h.nil⟩
theorem mapM_some {α β : Type} (f : α → Option β) : ∀ l : List α, (∀ i ∈ l, ∃ y, f i = some y) → ∃ ys, l.mapM f = some ys
  | [], _ => ⟨[], rfl⟩
  | a :: r, h => by
    obtain ⟨y, hy⟩ := h a (by simp)
    obtain ⟨ys, hys⟩ := mapM_some f r (fun i hi => h i (by simp [hi]))
    exact ⟨y :: ys, by simp [List.mapM_cons, hy, hys]⟩
theorem types333 : Tryz.prog.types.size = 333 := by kernel_rfl
theorem cellsOf5 : Tryz.prog.cellsOf 5 = 1 := by kernel_rfl
theorem cellsOf32 : Tryz.prog.cellsOf 32 = 20 := by kernel_rfl
theorem keyed32 : Maps.Keyed Tryz.prog 32 := Maps.Keyed.of_law (deep_law_laid (m := 10) (by kernel_rfl) (by decide) (of_decide_eq_true (by kernel_rfl)) (by kernel_rfl) (by kernel_rfl))
theorem key_id (x : List Int) (h : x.length = 20) (hb : ∀ n ∈ x, 0 ≤ n ∧ n < 256) : ∃ kl, keyOf Tryz.prog 32 (.agg (row .u8 x).toArray) = some kl := by
  have hlen : (row .u8 x).length = 20 := by rw [row_len]; exact h
  have hform : (Value.agg (row .u8 x).toArray).formed Tryz.prog 32 = true := by
    simp [Value.formed, Tryz.underlying32, hlen, cellsOf32]
  have hlits : ∃ ls, Tryz.prog.keyLits 334 32 (row .u8 x) = some ls := by
    obtain ⟨ys, hys⟩ := mapM_some (fun i => Tryz.prog.keyLits 333 5 (((row .u8 x).drop (i * Tryz.prog.cellsOf 5)).take (Tryz.prog.cellsOf 5))) (List.range 20) (fun i hi => by
      have hi2 : i < 20 := List.mem_range.1 hi
      refine ⟨[.int .u8 (x[i]'(by omega))], ?_⟩
      have e : ((row .u8 x).drop (i * Tryz.prog.cellsOf 5)).take (Tryz.prog.cellsOf 5) = [.int .u8 (x[i]'(by omega))] := by
        rw [cellsOf5, Nat.mul_one, List.drop_eq_getElem_cons (by omega)]
        simp [row]
      rw [e]
      have hw : (Lit.int .u8 (x[i]'(by omega))).wf = true := by
        have := hb _ (List.getElem_mem (l := x) (n := i) (by omega))
        exact WalkArith.wf_u8 ⟨this.1, by omega⟩
      unfold Program.keyLits
      rw [Tryz.underlying5]
      simp [hw])
    refine ⟨ys.flatten, ?_⟩
    unfold Program.keyLits
    rw [Tryz.underlying32]
    simp only [cellsOf32, hlen, if_true]
    rw [hys]
    rfl
  obtain ⟨ls, hls⟩ := hlits
  refine ⟨.string (keyBytes ls), ?_⟩
  unfold keyOf
  rw [Tryz.underlying32]
  simp only
  rw [if_pos (by rw [hform]; kernel_rfl), types333]
  show Option.map _ (Tryz.prog.keyLits (333 + 1) 32 (row .u8 x)) = _
  rw [hls]
  rfl
theorem row_inj {x y : List Int} (h : (Value.agg (row .u8 x).toArray) = .agg (row .u8 y).toArray) : x = y := by
  injection h with h
  have h2 : row .u8 x = row .u8 y := by simpa using congrArg Array.toList h
  unfold row at h2
  exact List.map_inj_right (fun a b e => by injection e) |>.1 h2
def DI (l : List (List Int)) (i : Nat) (D : DataW Unit) : Prop := (∀ kl, Maps.has D kl = true ↔ ∃ x ∈ l, keyOf Tryz.prog 32 (.agg (row .u8 x).toArray) = some kl) ∧ Maps.size D ≤ i ∧ (Maps.size D = i ↔ l.Nodup)
theorem di_zero : DI [] 0 (.map []) := ⟨fun kl => by simp [Maps.has], Nat.le_refl _, by simp [Maps.size]⟩
theorem DI.step {l : List (List Int)} {i : Nat} {D : DataW Unit} (h : DI l i D) (ht : Maps.Tidy D) (x : List Int) (kl : Lit) (hk : keyOf Tryz.prog 32 (.agg (row .u8 x).toArray) = some kl) (d : DataW Unit) : DI (l ++ [x]) (i + 1) (D.put kl d) := by
  obtain ⟨h1, h2, h3⟩ := h
  have hx : Maps.has D kl = true ↔ x ∈ l := by
    rw [h1]
    constructor
    · rintro ⟨y, hy, e⟩
      rw [← row_inj (keyed32.inj e hk)]
      exact hy
    · intro hx; exact ⟨x, hx, hk⟩
  refine ⟨fun kl' => ?_, ?_, ?_⟩
  · by_cases e : kl' = kl
    · subst e
      rw [Maps.has_put_same ht.isMap (keyed32.key hk)]
      simp only [true_iff]
      exact ⟨x, by simp, hk⟩
    · rw [Maps.has_put_other e, h1]
      constructor
      · rintro ⟨y, hy, e2⟩; exact ⟨y, by simp [hy], e2⟩
      · rintro ⟨y, hy, e2⟩
        rcases List.mem_append.1 hy with hy | hy
        · exact ⟨y, hy, e2⟩
        · have : y = x := by simpa using hy
          subst this
          rw [hk] at e2
          exact absurd (Option.some.inj e2).symm e
  · rw [Maps.size_put ht]
    split <;> omega
  · rw [Maps.size_put ht, List.nodup_append]
    by_cases hm : x ∈ l
    · rw [if_pos (hx.2 hm)]
      constructor
      · intro e; omega
      · rintro ⟨_, _, h⟩
        exact absurd rfl (h x hm x (by simp))
    · rw [if_neg (fun e => hm (hx.1 e))]
      constructor
      · intro e
        refine ⟨h3.1 (by omega), by simp, fun a ha b hb e2 => ?_⟩
        have : b = x := by simpa using hb
        rw [e2, this] at ha
        exact hm ha
      · rintro ⟨h, _, _⟩
        have := h3.2 h
        omega
theorem zero32 (w : World) : (zeroValue 32).run Tryz.prog w = .ok (.agg (row .u8 z20).toArray) w := by kernel_rfl
theorem take_snocI (ids : List (List Int)) (i : Nat) (h : i < ids.length) : ids.take (i + 1) = ids.take i ++ [ids.getD i []] := by
  rw [List.take_add_one, List.getD_eq_getElem?_getD, List.getElem?_eq_getElem h]
  rfl
theorem run_makeMap_some (n : Nat) (hn : n ≤ 1000) (w : World) : (Instr.makeMap 218 (some (.int .i64 (n : Int)))).run Tryz.prog w = .ok (.map (some w.heap.size)) (w.alloc (.map #[] 0)) := by
  have h : ¬ (n : Int) < 0 := by omega
  unfold Instr.makeMap
  go_simp
set_option maxRecDepth 20000 in
set_option maxHeartbeats 1000000 in
theorem differ_any (a : Option Addr) (cap : Nat) (ids : List (List Int)) (hwf : WfI ids) (hn : ids.length ≤ 1000) (w : World) (hP : Pa w a cap ids) :
    Calls Tryz.prog 99 #[.slice a ids.length cap] w fun e w' => BIs ids.Nodup e ∧ Below w.heap.size w w' := by
  obtain ⟨n, HN⟩ : ∃ n, Hid (ids.length = n) := ⟨_, rfl⟩
  obtain ⟨G, HG⟩ : ∃ G, Hid (w.heap.size = G) := ⟨_, rfl⟩
  have hnn : n ≤ 1000 := by rw [← HN.out]; exact hn
  obtain ⟨zr, HZ⟩ : ∃ zr : Array Value, Hid (zr = (row .u8 z20).toArray) := ⟨_, rfl⟩
  have hz32 : ∀ w : World, (zeroValue 32).run Tryz.prog w = .ok (.agg zr) w := fun w => by rw [HZ.out]; exact zero32 w
  have HPA : Hid (∀ W, Below G w W → Pa W a cap ids) := fun W hW => hP.below (by rw [HG.out]; exact hW)
  have HPL : Hid (0 < n → ∃ b off, a = some ⟨b, off, none⟩ ∧ b < G) := fun h0 => by
    obtain ⟨b, off, e1, e2, _⟩ := hP.at_ (by rw [HN.out]; exact h0)
    exact ⟨b, off, e1, by rw [← HG.out]; exact e2⟩
  obtain ⟨w1, HW1⟩ : ∃ w1, Hid (w.alloc (.map #[] 0) = w1) := ⟨_, rfl⟩
  have OW1 : Hid (w1.ownsMap (H := Unit) Tryz.prog 32 (plainElem Tryz.prog 3) G 0 (.map [])) := hid (by rw [← HW1.out, ← HG.out]; exact World.ownsMap_made _ _ _ _)
  have HB1 : Hid (Below G w w1) := hid (by rw [← HW1.out, ← HG.out]; exact (Below.refl _ w).alloc (Nat.le_refl _) _)
  have hmm : (Instr.makeMap 218 (some (.int .i64 (n : Int)))).run Tryz.prog w = .ok (.map (some w.heap.size)) (w.alloc (.map #[] 0)) := run_makeMap_some n hnn w
  rw [HN.out]
  clear hP
  go_enter Tryz.func99, Tryz.ntmps99
  go_wp2_with fail
  rw [HG.out, HW1.out]
  go_loopg [11] n (fun g v wr => ∃ (i : Nat) (D : DataW Unit), i ≤ n ∧ v = .int .i64 i ∧ g = n - i ∧ Hid (wr.ownsMap (H := Unit) Tryz.prog 32 (plainElem Tryz.prog 3) G i D) ∧ Hid (Below G w wr) ∧ Hid (DI (ids.take i) i D))
  case atStart => exact ⟨0, _, Nat.zero_le _, rfl, rfl, OW1, HB1, hid (by rw [List.take_zero]; exact di_zero)⟩
  case round =>
    obtain ⟨i, D, hi, rfl, hk, OW, HB, HD⟩ := hrel
    by_cases hlt : i < n
    · have hlti : (i : Int) < (n : Int) := by omega
      obtain ⟨b, off, hae, hbG⟩ := HPL.out (by omega)
      subst hae
      obtain ⟨b', off', e1, e2, e3⟩ := (HPA.out wr HB.out).at_ (by rw [HN.out]; omega)
      cases e1
      obtain ⟨x, HX⟩ : ∃ x, Hid (ids.getD i [] = x) := ⟨_, rfl⟩
      have hxm : x ∈ ids := by
        rw [← HX.out, List.getD_eq_getElem?_getD, List.getElem?_eq_getElem (by rw [HN.out]; exact hlt)]
        exact List.getElem_mem _
      obtain ⟨hx20, hxb⟩ := hwf x hxm
      obtain ⟨kl, hkl⟩ := key_id x hx20 hxb
      obtain ⟨RF, HRF⟩ : ∃ R : List Value, Hid (row .u8 x = R) := ⟨_, rfl⟩
      have HKL : Hid (keyOf Tryz.prog 32 (.agg RF.toArray) = some kl) := hid (by rw [← HRF.out]; exact hkl)
      have HKX : Hid (keyOf Tryz.prog 32 (.agg (row .u8 x).toArray) = some kl) := hkl
      have RR : Hid (wr.rangeAt b (off + i * 20) RF) := hid (by rw [← HRF.out, ← HX.out]; exact e3 i (by rw [HN.out]; exact hlt))
      have HFN : Hid (RF.length = 20) := hid (by rw [← HRF.out, row_len]; exact hx20)
      have hi32 : (Tryz.prog.info? 32).map (·.size) = some RF.length := by rw [HFN.out]; exact Tryz.size32
      have I32 : Hid ((Tryz.prog.info? 32).map (·.size) = some RF.toArray.size) := hid (by rw [List.size_toArray]; exact hi32)
      have E32 : Hid (zr.size = RF.toArray.size) := hid (by rw [HZ.out, List.size_toArray, List.size_toArray, HFN.out]; rfl)
      have O32 : Hid (RF.toArray.all (·.oneCell') = true) := hid (by rw [← HRF.out]; exact all_oneCell_toArray (row_one _ _))
      have D0 : Hid ((wr.alloc (.cells zr 32)).heap[wr.heap.size]? = some (.cells zr 32 (0, 0))) := heap_alloc_new wr _
      obtain ⟨w2, HW2⟩ : ∃ w2, Hid ((wr.alloc (.cells zr 32)).setRow wr.heap.size RF.toArray = w2) := ⟨_, rfl⟩
      obtain ⟨H, HH⟩ : ∃ H, Hid (wr.heap.size = H) := ⟨_, rfl⟩
      have hb2 : Below wr.heap.size wr w2 := by rw [← HW2.out]; exact below_setRow ((Below.refl _ wr).alloc (Nat.le_refl _) _) (Nat.le_refl _) _
      have R2 : Hid (w2.rangeAt H 0 RF) := hid (by rw [← HW2.out, ← HH.out]; exact range_row (setRow_heap _ _ _ RF.toArray _ _ D0.out))
      have OW2 : Hid (w2.ownsMap (H := Unit) Tryz.prog 32 (plainElem Tryz.prog 3) G i D) := OW.out.kept (row := none) (grown_of_below hb2 _) (by simp)
      have HB2 : Hid (Below G w w2) := HB.out.trans (hb2.mono (Nat.le_of_lt OW.out.lt))
      have HWF : Hid ((Lit.int .i64 (i : Int)).wf = true) := hid (WalkArith.wf_i64 (by omega))
      clear hb2 hkl hxm hx20 hxb e3 e2
      go_wp2_with (first
        | refine wpList_load_mid rfl 32 _ rfl b (off + i * 20) rfl RF _ RR.out Tryz.underlying32 rfl hi32 ?_
        | (refine wpList_store_row rfl 32 _ _ rfl wr.heap.size RF.toArray rfl rfl 32 zr D0.out I32.out E32.out O32.out ?_; rw [HW2.out, HH.out])
        | refine wpList_load_mid rfl 32 _ rfl H 0 rfl RF _ R2.out Tryz.underlying32 rfl hi32 ?_
        | (at_mapUpdate; refine wpList_mapUpdate_own _ rfl _ _ _ 218 rfl 32 3 keyed32 Tryz.underlying218 _ G i D rfl OW2.out (by unfold maxLen; omega) _ _ kl rfl rfl HKL.out _ [] (plainElem_int Tryz.underlying3 HWF.out) ?_; intro w3 hown3 hgrow3; have OW3 : Hid _ := hown3; have HB3 : Hid (Below G w w3) := HB2.out.grown hgrow3 (Nat.le_of_lt OW2.out.lt) (fun j hj => by cases hj; exact Nat.le_refl _); clear hown3 hgrow3))
      go_roundg (n - (i + 1))
      case measure => omega
      case rel =>
        refine ⟨i + 1, _, by omega, by go_num, rfl, OW3, HB3, hid ?_⟩
        rw [take_snocI ids i (by rw [HN.out]; exact hlt), HX.out]
        exact HD.out.step (OW2.out.tidy keyed32) x kl HKX.out _
    · have hlti : ¬ (i : Int) < (n : Int) := by omega
      have hin : i = n := by omega
      have HDN : Hid (Maps.size D = n ↔ ids.Nodup) := hid (by
        have := HD.out.2.2
        rw [hin, List.take_of_length_le (by rw [HN.out]; omega)] at this
        exact this)
      obtain ⟨sz, HSZ⟩ : ∃ sz, Maps.size D = sz := ⟨_, rfl⟩
      obtain ⟨eq, HEQ⟩ : ∃ b : Bool, ((sz : Int) == (n : Int)) = b := ⟨_, rfl⟩
      have FIN : Hid (BIs ids.Nodup (.returned (.bool eq))) := ⟨eq, rfl, by
        rw [← HDN.out, HSZ, ← HEQ]
        simp only [beq_iff_eq]
        omega⟩
      go_wp2_with (first
        | (at_len; refine wpList_len_own _ rfl _ 218 rfl 32 3 Tryz.underlying218 _ G i D rfl OW.out ?_; rw [HSZ]))
      go_ret
      exact ⟨FIN.out, by rw [HG.out]; exact HB.out⟩
end Go.Proofs.YtbpdielmdhhdfaaGreatDoor
namespace Go.Proofs.YtbpdielmdhhdfaaGreatDoor
open Go.RowKit
set_option linter.unusedVariables false
set_option linter.unusedSimpArgs false
structure Cm where
  tree : List Int
  ids : List (List Int)
  au : Per
  co : Per
  msg : List UInt8
def cmT (c : Cm) (a : Option Addr) (cap : Nat) : List Value := [.slice a c.ids.length cap, .string ⟨c.au.name.toArray⟩, .string ⟨c.au.mail.toArray⟩, .int .i64 c.au.time, .int .i64 c.au.zone, .string ⟨c.co.name.toArray⟩, .string ⟨c.co.mail.toArray⟩, .int .i64 c.co.time, .int .i64 c.co.zone, .string ⟨c.msg.toArray⟩]
def cmV (c : Cm) (a : Option Addr) (cap : Nat) : List Value := row .u8 c.tree ++ cmT c a cap
def WfC (c : Cm) : Prop := (c.tree.length = 20 ∧ ∀ n ∈ c.tree, 0 ≤ n ∧ n < 256) ∧ WfI c.ids
def okC (c : Cm) : Prop := c.ids.length ≤ 8 ∧ c.ids.Nodup ∧ okP c.au ∧ okP c.co ∧ isMsg c.msg = true
theorem cmV_len (c : Cm) (a : Option Addr) (cap : Nat) (h : c.tree.length = 20) : (cmV c a cap).length = 30 := by simp [cmV, cmT, row_len, h]
theorem cmV_at (c : Cm) (a : Option Addr) (cap : Nat) (h : c.tree.length = 20) (i : Nat) : (cmV c a cap)[20 + i]? = (cmT c a cap)[i]? := by
  have hl : (row .u8 c.tree).length = 20 := by rw [row_len]; exact h
  unfold cmV
  rw [List.getElem?_append_right (by omega), hl, Nat.add_sub_cancel_left]
theorem cmV_one (c : Cm) (a : Option Addr) (cap : Nat) : ∀ v ∈ cmV c a cap, v.oneCell' = true := by
  intro v hv
  unfold cmV at hv
  rcases List.mem_append.1 hv with hv | hv
  · exact row_one _ _ v hv
  · simp only [cmT, List.mem_cons, List.not_mem_nil, or_false] at hv
    rcases hv with rfl | rfl | rfl | rfl | rfl | rfl | rfl | rfl | rfl | rfl <;> rfl
theorem get_ofV {l : List Value} {i : Nat} {v : Value} (h : l[i]? = some v) (hi : i < l.length) : l[i]'hi = v := by
  rw [List.getElem?_eq_getElem hi] at h
  exact Option.some.inj h
structure Bk (H : Nat) (TV : List Value) (ty : TypeId) (W : World) : Prop where
  box : W.heap[H]? = some (.cells TV.toArray ty (0, 0))
theorem Bk.below {H : Nat} {TV : List Value} {ty : TypeId} {W W' : World} (h : Bk H TV ty W) (hb : Below W.heap.size W W') : Bk H TV ty W' := ⟨(hb.block _ (lt_of_some h.box)).trans h.box⟩
theorem Bk.lt {H : Nat} {TV : List Value} {ty : TypeId} {W : World} (h : Bk H TV ty W) : H < W.heap.size := lt_of_some h.box
theorem Bk.range {H : Nat} {TV : List Value} {ty : TypeId} {W : World} (h : Bk H TV ty W) : W.rangeAt H 0 TV := range_row h.box
structure BoxC (H : Nat) (c : Cm) (a : Option Addr) (cap : Nat) (W : World) : Prop where
  id : W.rangeAt H 0 (row .u8 c.tree)
  c20 : W.cell? ⟨H, 20, none⟩ = some (.slice a c.ids.length cap)
  au : W.rangeAt H 21 (perV c.au).toList
  co : W.rangeAt H 25 (perV c.co).toList
  c29 : W.cell? ⟨H, 29, none⟩ = some (.string ⟨c.msg.toArray⟩)
theorem Bk.cells {H : Nat} {ty : TypeId} {W : World} {c : Cm} {a : Option Addr} {cap : Nat} {TV : List Value} (h : Bk H TV ty W) (hv : cmV c a cap = TV) (hl : c.tree.length = 20) : BoxC H c a cap W := by
  subst hv
  have hr := range_row h.box
  have hlr : (row .u8 c.tree).length = 20 := by rw [row_len]; exact hl
  have g2 : ∀ (i : Nat) (v : Value), (cmT c a cap)[i]? = some v → W.cell? ⟨H, 20 + i, none⟩ = some v := fun i v hv => by
    have := hr (20 + i) v ((cmV_at c a cap hl i).trans hv)
    rwa [Nat.zero_add] at this
  refine ⟨fun j v hv => ?_, g2 0 _ rfl, ?_, ?_, g2 9 _ rfl⟩
  · refine hr j v ?_
    unfold cmV
    rw [List.getElem?_append_left (by obtain ⟨h1, _⟩ := List.getElem?_eq_some_iff.1 hv; exact h1)]
    exact hv
  · intro j v hv
    match j, hv with
    | 0, hv => exact (g2 1 _ rfl).trans hv
    | 1, hv => exact (g2 2 _ rfl).trans hv
    | 2, hv => exact (g2 3 _ rfl).trans hv
    | 3, hv => exact (g2 4 _ rfl).trans hv
    | j + 4, hv => simp [perV] at hv
  · intro j v hv
    match j, hv with
    | 0, hv => exact (g2 5 _ rfl).trans hv
    | 1, hv => exact (g2 6 _ rfl).trans hv
    | 2, hv => exact (g2 7 _ rfl).trans hv
    | 3, hv => exact (g2 8 _ rfl).trans hv
    | j + 4, hv => simp [perV] at hv
set_option maxRecDepth 20000 in
set_option maxHeartbeats 1000000 in
theorem isCommit_any (c : Cm) (hf : WfC c) (a : Option Addr) (cap : Nat) (h4 : c.msg.length ≤ 1000000) (w : World) (hP : Pa w a cap c.ids) :
    Calls Tryz.prog 53 #[.agg (cmV c a cap).toArray] w fun e w' => BIs (okC c) e ∧ Below w.heap.size w w' := by
  obtain ⟨TV, HTV⟩ : ∃ l : List Value, Hid (cmV c a cap = l) := ⟨_, rfl⟩
  have hvl : TV.length = 30 := by rw [← HTV.out]; exact cmV_len c a cap hf.1.1
  obtain ⟨n, HN⟩ : ∃ n, Hid (c.ids.length = n) := ⟨_, rfl⟩
  obtain ⟨M, HMM⟩ : ∃ S : ByteArray, Hid (⟨c.msg.toArray⟩ = S) := ⟨_, rfl⟩
  obtain ⟨ms, HMSB⟩ : ∃ b : Bool, Hid (isMsg c.msg = b) := ⟨_, rfl⟩
  obtain ⟨PA, HPA⟩ : ∃ l : List Value, Hid ((perV c.au).toList = l) := ⟨_, rfl⟩
  obtain ⟨PC, HPC⟩ : ∃ l : List Value, Hid ((perV c.co).toList = l) := ⟨_, rfl⟩
  have hiA : (Tryz.prog.info? 58).map (·.size) = some PA.length := by rw [← HPA.out]; exact Tryz.size58
  have hiC : (Tryz.prog.info? 58).map (·.size) = some PC.length := by rw [← HPC.out]; exact Tryz.size58
  have hA20 : TV[20]'(by omega) = .slice a n cap := get_ofV (by rw [← HTV.out, ← HN.out]; exact cmV_at c a cap hf.1.1 0) _
  obtain ⟨G, HG⟩ : ∃ G, Hid (w.heap.size = G) := ⟨_, rfl⟩
  obtain ⟨w0, HW0⟩ : ∃ w0, Hid (w.alloc (.cells TV.toArray 60) = w0) := ⟨_, rfl⟩
  have HB0 : Hid (Below G w w0) := hid (by rw [← HW0.out, ← HG.out]; exact (Below.refl _ w).alloc (Nat.le_refl _) _)
  have BG0 : Hid (Bk G TV 60 w0) := ⟨by rw [← HW0.out, ← HG.out]; exact heap_alloc_new w _⟩
  have HC : Hid (∀ W, Bk G TV 60 W → BoxC G c a cap W) := fun W hW => hW.cells HTV.out hf.1.1
  have HPE : Hid (∀ w, Calls Tryz.prog 100 #[.agg PA.toArray] w fun e w' => BIs (okP c.au) e ∧ Below w.heap.size w w') := fun w => by rw [← HPA.out]; exact isPerson_any c.au w
  have HPF : Hid (∀ w, Calls Tryz.prog 100 #[.agg PC.toArray] w fun e w' => BIs (okP c.co) e ∧ Below w.heap.size w w') := fun w => by rw [← HPC.out]; exact isPerson_any c.co w
  have HMS : Hid (∀ w, Calls Tryz.prog 101 #[.string M] w fun e w' => e = .returned (.bool ms) ∧ w' = w) := fun w => by rw [← HMM.out, ← HMSB.out]; exact isMessage_any c.msg w h4
  have HDF : Hid (n ≤ 8 → ∀ W, Below G w W → Calls Tryz.prog 99 #[.slice a n cap] W fun e w' => BIs c.ids.Nodup e ∧ Below W.heap.size W w') := fun hn W hW => by
    have := differ_any a cap c.ids hf.2 (by rw [HN.out]; omega) W (hP.below (by rw [HG.out]; exact hW))
    rw [HN.out] at this
    exact this
  rw [HTV.out]
  clear hP
  by_cases hn8 : n ≤ 8
  · have hn8i : (n : Int) ≤ 8 := by omega
    go_enter Tryz.func53, Tryz.ntmps53
    go_wp2_with fail
    rw [HG.out, HW0.out]
    clear hA20 hvl
    refine (HDF.out hn8 w0 HB0.out).mono ?_
    rintro ev w1 ⟨hb, hb1⟩
    have HB1 : Hid (Below G w w1) := HB0.out.trans (hb1.mono (Nat.le_of_lt BG0.out.lt))
    have BG1 : Hid (Bk G TV 60 w1) := BG0.out.below hb1
    clear hb1
    rcases bis_or hb with ⟨hy1, rfl⟩ | ⟨hn1, rfl⟩
    · have HY1 : Hid c.ids.Nodup := hy1
      clear hy1 hb
      have R1 : Hid (w1.rangeAt G 21 PA) := hid (by rw [← HPA.out]; exact (HC.out _ BG1.out).au)
      go_wp2_with (first | (refine BigFrame.wpList_want (by rfl) (fun K hK => ?_); refine wp_load_mid 58 _ rfl G 21 rfl PA _ R1.out Tryz.underlying58 rfl hiA ?_; refine hK _ _ ?_; clear hK K) | fail)
      refine (HPE.out w1).mono ?_
      rintro ev w2 ⟨hb, hb2⟩
      have HB2 : Hid (Below G w w2) := HB1.out.trans (hb2.mono (Nat.le_of_lt BG1.out.lt))
      have BG2 : Hid (Bk G TV 60 w2) := BG1.out.below hb2
      clear hb2
      rcases bis_or hb with ⟨hy2, rfl⟩ | ⟨hn2, rfl⟩
      · have HY2 : Hid (okP c.au) := hy2
        clear hy2 hb
        have R2 : Hid (w2.rangeAt G 25 PC) := hid (by rw [← HPC.out]; exact (HC.out _ BG2.out).co)
        go_wp2_with (first | (refine BigFrame.wpList_want (by rfl) (fun K hK => ?_); refine wp_load_mid 58 _ rfl G 25 rfl PC _ R2.out Tryz.underlying58 rfl hiC ?_; refine hK _ _ ?_; clear hK K) | fail)
        refine (HPF.out w2).mono ?_
        rintro ev w3 ⟨hb, hb3⟩
        have HB3 : Hid (Below G w w3) := HB2.out.trans (hb3.mono (Nat.le_of_lt BG2.out.lt))
        have BG3 : Hid (Bk G TV 60 w3) := BG2.out.below hb3
        clear hb3
        rcases bis_or hb with ⟨hy3, rfl⟩ | ⟨hn3, rfl⟩
        · have HY3 : Hid (okP c.co) := hy3
          clear hy3 hb
          have c29 : w3.cell? ⟨G, 29, none⟩ = some (.string M) := by rw [← HMM.out]; exact (HC.out _ BG3.out).c29
          go_wp2_with fail
          refine (HMS.out w3).mono ?_
          rintro ev w' ⟨rfl, rfl⟩
          go_wp2
          go_ret
          refine ⟨⟨ms, rfl, ?_⟩, by rw [HG.out]; exact HB3.out⟩
          rw [← HMSB.out]
          exact ⟨fun h => ⟨by rw [HN.out]; exact hn8, HY1.out, HY2.out, HY3.out, h⟩, fun h => h.2.2.2.2⟩
        · have HOK : Hid (¬ okC c) := fun h => hn3 h.2.2.2.1
          clear hn3 hb
          go_wp2
          go_ret
          exact ⟨bis_false HOK.out, by rw [HG.out]; exact HB3.out⟩
      · have HOK : Hid (¬ okC c) := fun h => hn2 h.2.2.1
        clear hn2 hb
        go_wp2
        go_ret
        exact ⟨bis_false HOK.out, by rw [HG.out]; exact HB2.out⟩
    · have HOK : Hid (¬ okC c) := fun h => hn1 h.2.1
      clear hn1 hb
      go_wp2
      go_ret
      exact ⟨bis_false HOK.out, by rw [HG.out]; exact HB1.out⟩
  · have hn8i : ¬ (n : Int) ≤ 8 := by omega
    have HOK : Hid (¬ okC c) := fun h => hn8 (by rw [← HN.out]; exact h.1)
    go_enter Tryz.func53, Tryz.ntmps53
    go_wp2
    go_ret
    rw [HG.out, HW0.out]
    exact ⟨bis_false HOK.out, HB0.out⟩
end Go.Proofs.YtbpdielmdhhdfaaGreatDoor
namespace Go.Proofs.YtbpdielmdhhdfaaGreatDoor
open Go.RowKit
set_option linter.unusedVariables false
theorem owns_shape {w : World} {B : Nat} {e : TypeId} {s : Nat} {v : Value} {n : Nat} {xs : List Value} (h : w.ownsRow B e s v n xs) : ∃ a cp, v = .slice a n cp := by
  obtain ⟨_, ⟨rfl, rfl⟩ | ⟨g, cap, cur, rfl, _⟩⟩ := h
  · exact ⟨none, 0, rfl⟩
  · exact ⟨_, cap, rfl⟩
theorem step_append_at {P : Program} (w : World) {ops : Array Oper} {o : Oper} {a : Act} {K : Act → World → Prop} {Q : Exit → Act → World → Prop} {E : Prop} (hgd : o.guard = none) (s x : Operand) (t : TypeId)
    (ho : o.op = .call { callee := .builtin .append, args := #[s, x], argTypes := #[t, t] })
    (base : Nat) (e : TypeId) (i : TypeInfo) (z : Value) (size bytes : Nat) (ht : P.underlying t = some (.slice e)) (hi : P.info? e = some i) (hz : i.zero = some z)
    (hsize : i.size = size) (hby : i.bytes = bytes) (hzs : z.cells.size = size) (hsz : 0 < size)
    (v : Value) (n : Nat) (xs : List Value) (hs : a.eval s = v) (hown : w.ownsRow base e size v n xs)
    (ad : Addr) (m c : Nat) (news : List Value) (hx : a.eval x = .slice (some ad) m c) (hl : news.length = m * size) (hnews : ∀ j u, news[j]? = some u → w.cell? (ad.add j) = some u) (h1 : ∀ u ∈ news, u.oneCell' = true)
    (h63 : n + m ≤ maxLen) (hbytes : (n + m) * bytes ≤ 140737488355328) (hbase : base ≤ w.heap.size) (H : Nat) (hH : w.heap.size = H)
    (h : ∀ (ao : Option Addr) (cap : Nat) (w' : World), w'.ownsRow base e size (.slice ao (n + m : Nat) cap) (n + m) (xs ++ news) → w.grownBy w' v.ownBlock → ((Value.slice ao (n + m : Nat) cap).ownBlock = v.ownBlock ∨ (Value.slice ao (n + m : Nat) cap).ownBlock = some H) → K (a.put o.dst (.slice ao (n + m : Nat) cap)) w') :
    if Region.wanted o (yielded ops a.tmps) = true then Oper.wp P o a w K Q else E := by
  have hw : Region.wanted o (yielded ops a.tmps) = true := by simp [Region.wanted, hgd]
  rw [if_pos hw]
  obtain ⟨v', w', hr, h2, h3, _, h5⟩ := run_append_own_at (P := P) w base t o.type e i z size bytes ht hi hz hsize hby hzs hsz v n xs hown ad m c news hl hnews h1 h63 hbytes hbase
  obtain ⟨ao, cap, rfl⟩ := owns_shape h2
  unfold Oper.wp execOp
  simp only [ho, resolve, invoke, builtin, Sem.run_bind, Sem.run_pure, Result.andThen_ok, List.map_toArray, List.map_cons, List.map_nil, hs, hx, hr]
  exact h ao cap w' h2 h3 (hH ▸ h5)
theorem wpList_append_at {P : Program} (w : World) {ops : Array Oper} {rest : List Oper} {o : Oper} {a : Act} {Q : Exit → Act → World → Prop} (hgd : o.guard = none) (s x : Operand) (t : TypeId)
    (ho : o.op = .call { callee := .builtin .append, args := #[s, x], argTypes := #[t, t] })
    (base : Nat) (e : TypeId) (i : TypeInfo) (z : Value) (size bytes : Nat) (ht : P.underlying t = some (.slice e)) (hi : P.info? e = some i) (hz : i.zero = some z)
    (hsize : i.size = size) (hby : i.bytes = bytes) (hzs : z.cells.size = size) (hsz : 0 < size)
    (v : Value) (n : Nat) (xs : List Value) (hs : a.eval s = v) (hown : w.ownsRow base e size v n xs)
    (ad : Addr) (m c : Nat) (news : List Value) (hx : a.eval x = .slice (some ad) m c) (hl : news.length = m * size) (hnews : ∀ j u, news[j]? = some u → w.cell? (ad.add j) = some u) (h1 : ∀ u ∈ news, u.oneCell' = true)
    (h63 : n + m ≤ maxLen) (hbytes : (n + m) * bytes ≤ 140737488355328) (hbase : base ≤ w.heap.size) (H : Nat) (hH : w.heap.size = H)
    (h : ∀ (ao : Option Addr) (cap : Nat) (w' : World), w'.ownsRow base e size (.slice ao (n + m : Nat) cap) (n + m) (xs ++ news) → w.grownBy w' v.ownBlock → ((Value.slice ao (n + m : Nat) cap).ownBlock = v.ownBlock ∨ (Value.slice ao (n + m : Nat) cap).ownBlock = some H) → wpList P ops Q rest (a.put o.dst (.slice ao (n + m : Nat) cap)) w') :
    wpList P ops Q (o :: rest) a w :=
  wpList_plain hgd fun K hK => by
    have := step_append_at (P := P) w (ops := ops) (o := o) (a := a) (K := K) (Q := Q) (E := False) hgd s x t ho base e i z size bytes ht hi hz hsize hby hzs hsz v n xs hs hown ad m c news hx hl hnews h1 h63 hbytes hbase H hH (fun ao cap w' h2 h3 h4 => hK _ _ (h ao cap w' h2 h3 h4))
    rwa [if_pos (by simp [Region.wanted, hgd])] at this
theorem wpList_append_run {P : Program} {w : World} {ops : Array Oper} {rest : List Oper} {o : Oper} {a : Act} {Q : Exit → Act → World → Prop} (hgd : o.guard = none) (s x : Operand) (t : TypeId)
    (ho : o.op = .call { callee := .builtin .append, args := #[s, x], argTypes := #[t, t] }) (sv xv v : Value) (w2 : World) (hs : a.eval s = sv) (hx : a.eval x = xv) (hrun : (Builtin.append_ #[t, t] o.type #[sv, xv]).run P w = .ok v w2) (h : wpList P ops Q rest (a.put o.dst v) w2) :
    wpList P ops Q (o :: rest) a w :=
  wpList_plain hgd fun K hK => by
    unfold Oper.wp execOp
    simp only [ho, resolve, invoke, builtin, Sem.run_bind, Sem.run_pure, Result.andThen_ok, List.map_toArray, List.map_cons, List.map_nil, hs, hx, hrun]
    exact hK _ _ h
theorem append_nil (cap : Nat) (w : World) : (Builtin.append_ #[23, 23] 23 #[.slice none 0 0, .slice none 0 cap]).run Tryz.prog w = .ok (.slice none 0 0) w := by kernel_rfl
end Go.Proofs.YtbpdielmdhhdfaaGreatDoor
