/- The law 'DigestHexes': its walk. -/
import Derived.Test.YtlkfanlodoiacabDoorLawA
namespace Go.Proofs.YtlkfanlodoiacabDoor
open Go.RowKit
set_option linter.unusedVariables false

set_option maxHeartbeats 400000 in
theorem walk_long (v : Value) (s : ByteArray) (w : World) (h : 300000 < s.size) (hm : s.size ≤ 9223372036854775807) (arr : Array Value) (hv : v = .agg arr) (ha : arr.size = 20) :
    Calls Tryd.prog 3 #[v, .string s] w fun e w' => e = .returned (.bool true) ∧ Below w.heap.size w w' := by
  subst hv
  have HB : Hid (Below w.heap.size w (w.alloc (.cells arr 23))) := (Below.refl _ w).alloc (Nat.le_refl _) _
  go_enter Tryd.func3, Tryd.ntmps3
  go_wp2
  go_ret
  exact ⟨rfl, HB.out⟩

theorem hid {p : Prop} (h : p) : Hid p := h
theorem size_setCells (g : Nat) : ∀ (vs : List Value) (o : Nat) (w : World), (w.setCells g o vs).heap.size = w.heap.size
  | [], _, _ => rfl
  | _ :: r, o, _ => (size_setCells g r (o + 1) _).trans (by simp [World.setCell])
theorem below_cell0 {B : Nat} {w w' : World} {v : Value} (h : Below B w w') (hB : 0 < B) (hg : w.cell? ⟨0, 0, none⟩ = some v) : w'.cell? ⟨0, 0, none⟩ = some v := (h.cell (p := ⟨0, 0, none⟩) hB).trans hg

set_option maxRecDepth 20000 in
set_option maxHeartbeats 1000000 in
theorem walk_short (zs : List Int) (s : ByteArray) (w : World) (hs : s.size ≤ 300000) (hl : zs.length = 20) (hz : ∀ n ∈ zs, 0 ≤ n ∧ n < 256) (hg : w.cell? ⟨0, 0, none⟩ = some (.iface 55 (.agg #[.pointer (some ⟨2, 27, none⟩)]))) :
    Calls Tryd.prog 3 #[.agg (row zs).toArray, .string s] w fun e w' => e = .returned (.bool true) ∧ Below w.heap.size w w' := by
  have hi2 : ∀ l : List Int, l.length = 20 → (Tryd.prog.info? 23).map (·.size) = some (row l).length := fun l h => by rw [row_len, h]; exact Tryd.info23
  have h0 : 0 < w.heap.size := by
    rcases Nat.lt_or_ge 0 w.heap.size with h | h
    · exact h
    · simp [World.cell?, Array.getElem?_eq_none h] at hg
  obtain ⟨arr, HA⟩ : ∃ arr, Hid (arr = row zs) := ⟨_, rfl⟩
  have hsz : (row zs).toArray.size = 20 := by rw [List.size_toArray, row_len]; exact hl
  have HC0 : Hid ((w.alloc (.cells (row zs).toArray 23)).rangeAt w.heap.size 0 (row zs)) := range_row (heap_alloc_new w _)
  have HR : ∀ w', Below (w.heap.size + 1) (w.alloc (.cells (row zs).toArray 23)) w' → w'.rangeAt w.heap.size 0 (row zs) := fun w' h j v hv => (h.cell (p := ⟨w.heap.size, 0 + j, none⟩) (by simp)).trans (HC0.out j v hv)
  have HG : ∀ w', Below (w.heap.size + 1) (w.alloc (.cells (row zs).toArray 23)) w' → w'.cell? ⟨0, 0, none⟩ = some (.iface 55 (.agg #[.pointer (some ⟨2, 27, none⟩)])) := fun w' h => below_cell0 h (by omega) (by rw [World.cell?_alloc_lt _ _ ⟨0, 0, none⟩ h0]; exact hg)
  go_enter Tryd.func3, Tryd.ntmps3
  go_wp2_with (first | refine wpList_load_mid rfl 23 _ rfl w.heap.size 0 rfl (row zs) _ HC0.out Tryd.underlying23 rfl (hi2 _ hl) ?_ | fail)
  refine (hex_prog zs _ hl hz).mono ?_
  rintro e w1 ⟨rfl, hb⟩
  have HB1 : Hid (Below (w.heap.size + 1) (w.alloc (.cells (row zs).toArray 23)) w1) := hid (by simpa using hb)
  clear hb
  have HR1 := HR w1 HB1.out
  go_wp2_with (first | refine wpList_load_mid rfl 23 _ rfl w.heap.size 0 rfl (row zs) _ HR1 Tryd.underlying23 rfl (hi2 _ hl) ?_ | fail)
  refine (hex_ref zs _ hl hz).mono ?_
  rintro e w2 ⟨rfl, hb⟩
  have HB2 : Hid (Below (w.heap.size + 1) (w.alloc (.cells (row zs).toArray 23)) w2) := HB1.out.trans (hb.mono (by simpa using HB1.out.size))
  clear hb HR1
  go_wp2_with fail
  refine (parse_prog _ _ (by rw [str_size, hexOf_len]; omega)).mono ?_
  rintro e w3 ⟨hb, he, -⟩
  have he := he ⟨by rw [str_size, hexOf_len]; omega, hex_good zs hl hz⟩
  rw [hex_back zs hl hz] at he
  subst he
  have HB3 : Hid (Below (w.heap.size + 1) (w.alloc (.cells (row zs).toArray 23)) w3) := HB2.out.trans (hb.mono (by simpa using HB2.out.size))
  clear hb
  have HT : Hid ((w3.alloc (.cells (row zeros).toArray 23)).there w3.heap.size 0 20) := there_row (heap_alloc_new w3 _) rfl
  have HS : Hid (((w3.alloc (.cells (row zeros).toArray 23)).setCells w3.heap.size 0 (row zs)).rangeAt w3.heap.size 0 (row zs)) := World.rangeAt_setCells_same _ w3.heap.size 0 _ (by rw [row_len, hl]; exact HT.out)
  have HB4 : Hid (Below (w.heap.size + 1) (w.alloc (.cells (row zs).toArray 23)) ((w3.alloc (.cells (row zeros).toArray 23)).setCells w3.heap.size 0 (row zs))) := below_setCells (by simpa using HB3.out.size) _ _ _ _ (HB3.out.alloc (by simpa using HB3.out.size) _)
  have HR4 := HR _ HB4.out
  have hsame := same23 zs hl
  go_wp2_with (first
    | refine wpList_store_mid rfl 23 _ _ rfl w3.heap.size 0 (row zs).toArray rfl rfl (by rw [hsz]; exact HT.out) (by rw [hsz]; exact Tryd.info23) (all_oneCell_toArray (row_one _)) ?_
    | refine wpList_load_mid rfl 23 _ rfl w3.heap.size 0 rfl (row zs) _ HS.out Tryd.underlying23 rfl (hi2 _ hl) ?_
    | refine wpList_load_mid rfl 23 _ rfl w.heap.size 0 rfl (row zs) _ HR4 Tryd.underlying23 rfl (hi2 _ hl) ?_)
  refine (tell_nil _).mono ?_
  rintro e w4 ⟨rfl, hb⟩
  have HB5 : Hid (Below (w.heap.size + 1) (w.alloc (.cells (row zs).toArray 23)) w4) := HB4.out.trans (hb.mono (Nat.le_trans (by simp) HB4.out.size))
  clear hb HR4 HB4 HT HS
  go_wp2_with fail
  refine (parse_prog s _ hs).mono ?_
  rintro e w5 ⟨hb, he, hne⟩
  have HB6 : Hid (Below (w.heap.size + 1) (w.alloc (.cells (row zs).toArray 23)) w5) := HB5.out.trans (hb.mono (by simpa using HB5.out.size))
  clear hb
  obtain ⟨xs, ev, bv, nn, hx20, rfl, h8, htell, hok⟩ : ∃ (xs : List Int) (ev : Value) (bv : Bool) (nn : Int), xs.length = 20 ∧ e = .returned (.tuple #[.agg (row xs).toArray, ev]) ∧
      (∀ w1, Calls Tryd.prog 8 #[.string s] w1 fun e w' => e = .returned (.tuple #[.agg (row xs).toArray, .bool bv]) ∧ Below w1.heap.size w1 w') ∧
      (∀ w1, Below (w.heap.size + 1) (w.alloc (.cells (row zs).toArray 23)) w1 → Calls Tryd.prog 7 #[ev] w1 fun e w' => e = .returned (.int .i64 nn) ∧ Below w1.heap.size w1 w') ∧ ((nn = 0 ∧ bv = true) ∨ (nn = 12 ∧ bv = false)) := by
    by_cases h : s.size = 40 ∧ good s
    · exact ⟨idAt s 40, .nilIface, true, 0, idAt_len s 40, he h, fun w1 => (parse_ref s w1 hs).mono (fun e w' hh => ⟨hh.2.1 h, hh.1⟩), fun w1 _ => tell_nil w1, .inl ⟨rfl, rfl⟩⟩
    · exact ⟨zeros, .iface 30 (.int .i64 12), false, 12, rfl, hne h, fun w1 => (parse_ref s w1 hs).mono (fun e w' hh => ⟨hh.2.2 h, hh.1⟩), fun w1 hb => tell_errno 12 w1 (HG w1 hb), .inr ⟨rfl, rfl⟩⟩
  clear he hne
  have hxz : (row xs).toArray.size = 20 := by rw [List.size_toArray, row_len]; exact hx20
  have hi3 : ∀ l : List Int, l.length = 20 → (Tryd.prog.info? 22).map (·.size) = some (row l).length := fun l h => by rw [row_len, h]; exact Tryd.info22
  have HT : Hid ((w5.alloc (.cells (row zeros).toArray 23)).there w5.heap.size 0 20) := there_row (heap_alloc_new w5 _) rfl
  have HS : Hid (((w5.alloc (.cells (row zeros).toArray 23)).setCells w5.heap.size 0 (row xs)).rangeAt w5.heap.size 0 (row xs)) := World.rangeAt_setCells_same _ w5.heap.size 0 _ (by rw [row_len, hx20]; exact HT.out)
  have HB7 : Hid (Below (w.heap.size + 1) (w.alloc (.cells (row zs).toArray 23)) ((w5.alloc (.cells (row zeros).toArray 23)).setCells w5.heap.size 0 (row xs))) := below_setCells (by simpa using HB6.out.size) _ _ _ _ (HB6.out.alloc (by simpa using HB6.out.size) _)
  have HZ7 : Hid (w5.heap.size < ((w5.alloc (.cells (row zeros).toArray 23)).setCells w5.heap.size 0 (row xs)).heap.size) := hid (by rw [size_setCells]; simp)
  go_wp2_with (refine wpList_store_mid rfl 23 _ _ rfl w5.heap.size 0 (row xs).toArray rfl rfl (by rw [hxz]; exact HT.out) (by rw [hxz]; exact Tryd.info23) (all_oneCell_toArray (row_one _)) ?_)
  refine (h8 _).mono ?_
  rintro e w7 ⟨rfl, hb⟩
  have HS7 : w7.rangeAt w5.heap.size 0 (row xs) := fun j v hv => (hb.cell (p := ⟨w5.heap.size, 0 + j, none⟩) HZ7.out).trans (HS.out j v hv)
  have HB8 : Hid (Below (w.heap.size + 1) (w.alloc (.cells (row zs).toArray 23)) w7) := HB7.out.trans (hb.mono (Nat.le_trans (by simp) HB7.out.size))
  have HZ8 : Hid (w5.heap.size < w7.heap.size) := Nat.lt_of_lt_of_le HZ7.out hb.size
  clear hb HT HS HB7 HZ7
  have HT : Hid ((w7.alloc (.cells (row zeros).toArray 22)).there w7.heap.size 0 20) := there_row (heap_alloc_new w7 _) rfl
  have HS : Hid (((w7.alloc (.cells (row zeros).toArray 22)).setCells w7.heap.size 0 (row xs)).rangeAt w7.heap.size 0 (row xs)) := World.rangeAt_setCells_same _ w7.heap.size 0 _ (by rw [row_len, hx20]; exact HT.out)
  have HX9 : Hid (Below w7.heap.size w7 ((w7.alloc (.cells (row zeros).toArray 22)).setCells w7.heap.size 0 (row xs))) := below_setCells (Nat.le_refl _) _ _ _ _ ((Below.refl _ w7).alloc (Nat.le_refl _) _)
  have HB9 : Hid (Below (w.heap.size + 1) (w.alloc (.cells (row zs).toArray 23)) ((w7.alloc (.cells (row zeros).toArray 22)).setCells w7.heap.size 0 (row xs))) := HB8.out.trans (HX9.out.mono (by simpa using HB8.out.size))
  have HZ9 : Hid (w7.heap.size < ((w7.alloc (.cells (row zeros).toArray 22)).setCells w7.heap.size 0 (row xs)).heap.size) := hid (by rw [size_setCells]; simp)
  go_wp2_with (refine wpList_store_mid rfl 22 _ _ rfl w7.heap.size 0 (row xs).toArray rfl rfl (by rw [hxz]; exact HT.out) (by rw [hxz]; exact Tryd.info22) (all_oneCell_toArray (row_one _)) ?_)
  refine (htell _ HB9.out).mono ?_
  rintro e w9 ⟨rfl, hb⟩
  have HR9 : w9.rangeAt w7.heap.size 0 (row xs) := fun j v hv => (hb.cell (p := ⟨w7.heap.size, 0 + j, none⟩) HZ9.out).trans (HS.out j v hv)
  have HQ9 : w9.rangeAt w5.heap.size 0 (row xs) := fun j v hv => ((hb.cell (p := ⟨w5.heap.size, 0 + j, none⟩) (Nat.lt_trans HZ8.out HZ9.out)).trans (HX9.out.cell (p := ⟨w5.heap.size, 0 + j, none⟩) HZ8.out)).trans (HS7 j v hv)
  have HBF : Hid (Below w.heap.size w w9) := below_alloc (HB9.out.trans (hb.mono (Nat.le_trans (by simp) HB9.out.size)))
  have hsm := same23 xs hx20
  clear hb HT HS HB9 HZ9 HX9 HS7 htell h8
  rcases hok with ⟨rfl, rfl⟩ | ⟨rfl, rfl⟩
  all_goals
    go_wp2_with (first
      | refine wpList_load_mid rfl 23 _ rfl w5.heap.size 0 rfl (row xs) _ HQ9 Tryd.underlying23 rfl (hi2 _ hx20) ?_
      | refine wpList_load_mid rfl 22 _ rfl w7.heap.size 0 rfl (row xs) _ HR9 Tryd.underlying22 rfl (hi3 _ hx20) ?_)
    go_ret
    exact ⟨rfl, HBF.out⟩
end Go.Proofs.YtlkfanlodoiacabDoor
