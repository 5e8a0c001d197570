/- The law 'DigestSums': its walk. -/
import Derived.Test.YtlkfanlodoiacaaRefS
import Derived.Test.YtlkfanlodoiacaaHelpC
import Derived.ChangeKeysEq
import Derived.Laws.StructEq
namespace Go.Proofs.Ytlkfanlodoiacaa
open Go.RowKit
set_option linter.unusedVariables false

theorem eqItems_same {P : Program} (d : Nat) (e : TypeId) (he : P.plainKey e = true) (hu : P.underlying e = some (.int .u8)) (xs : List Int) : ∀ (is : List Nat) (w : World), (∀ j ∈ is, j < xs.length) → (Op.eqItems (d + 1) e 1 (row .u8 xs).toArray (row .u8 xs).toArray is).run P w = .ok true w
  | [], w, _ => by simp [Op.eqItems]
  | j :: is, w, h => by
    have hj := h j (by simp)
    have hp : (part e (row .u8 xs).toArray j).run P w = .ok (.int .u8 (xs.getD j 0)) w := run_part_plain w he (by simpa using row_at .u8 xs j hj)
    simp only [Op.eqItems, Sem.run_bind, Nat.mul_one, hp, Result.andThen_ok]
    simp [go_sem, hu, eqItems_same d e he hu xs is w (fun k hk => h k (by simp [hk]))]
theorem cells5 : Try.prog.cellsOf 5 = 1 := by kernel_rfl
theorem plain5 : Try.prog.plainKey 5 = true := by kernel_rfl
theorem same25 (xs : List Int) (h : xs.length = 20) (w : World) : (Op.equalIn 10000 25 (.agg (row .u8 xs).toArray) (.agg (row .u8 xs).toArray)).run Try.prog w = .ok true w := by
  obtain ⟨i5, hi, -⟩ := info_parts Try.info5
  rw [show (10000 : Nat) = 9999 + 1 from rfl, run_equalIn_array w 9999 _ _ Try.underlying25 hi, cells5]
  exact eqItems_same 9998 5 plain5 Try.underlying5 xs _ w (fun j hj => by rw [h]; simpa using hj)

theorem grown_drewN (w : World) (n : Nat) (r : Option Nat) : w.grownBy (w.drewN n) r := ⟨rfl, rfl, rfl, Nat.le_refl _, fun _ _ _ => rfl⟩
set_option maxHeartbeats 400000 in
theorem still_keep (a : Option Addr) (cap g : Nat) (zs : List Int) (w : World) (hl : zs.length ≤ 300000) (hz : IsB zs) (hr : Room w g zs) (hc : 0 < zs.length → ∃ b off, a = some ⟨b, off, none⟩ ∧ b < g ∧ At w b off zs) :
    Calls Try.prog 7 #[.slice (some ⟨g, 0, none⟩) zs.length (zs.length + 2), .slice a zs.length cap] w fun e w' => e = .returned (.bool true) ∧ w.grownBy w' (some g) := by
  have c71 := hr.c71
  have c72 := hr.c72
  go_enter Try.func7, Try.ntmps7
  go_wp2_with (go_at_call 12; refine (same_any _ _ _ _ zs _ (by omega) (fun _ => ⟨g, 0, rfl, fun i hi => by rw [Nat.zero_add]; exact hr.cell i hi⟩) (fun h => by obtain ⟨b, off, h1, h2, h3⟩ := hc h; exact ⟨b, off, h1, h3⟩)).mono ?_; rintro e w1 ⟨rfl, nq, rfl⟩)
  go_loopw [8] (fun i wr => ∃ k : Nat, k ≤ zs.length + 2 ∧ i = .int .i64 k ∧ Own wr g (zs.length + 2) ∧ (∀ i, wr.frozen? ⟨g, i, none⟩ = false) ∧ w.grownBy wr (some g)) (fun i _ => zs.length + 2 - (intOf i).toNat)
  case atStart => exact ⟨0, Nat.zero_le _, rfl, hr.own hz, hr.fz, grown_drewN _ _ _⟩
  case round =>
    obtain ⟨k, hk, rfl, hown, hfz, hbel⟩ := hrel
    clear c71 c72
    by_cases hlt : k < zs.length + 2
    · obtain ⟨v, hv1, hv2, hcell⟩ := hown k hlt
      obtain ⟨v', hx, hv3, hv4⟩ := xor85 v hv1 hv2
      have hf := hfz k
      go_wp2
      go_roundw
      case rel => exact ⟨k + 1, by omega, by go_num, hown.set k v' hv3 hv4, fun i => by rw [World.frozen?_setCell]; exact hfz i, grown_setCell _ hbel⟩
      case measure => simp [intOf]; omega
    · go_wp2
      go_ret
      exact ⟨rfl, hbel⟩
set_option maxHeartbeats 400000 in
theorem walkS_long (a : Option Addr) (len cap : Nat) (w : World) (h : 300000 < len) (hm : len ≤ maxLen) :
    Calls Try.prog 3 #[.slice a len cap] w fun e w' => e = .returned (.bool true) ∧ Below w.heap.size w w' := by
  unfold maxLen at hm
  go_enter Try.func3, Try.ntmps3
  go_wp2
  go_ret
  exact ⟨rfl, Below.refl _ _⟩

set_option maxRecDepth 20000 in
set_option maxHeartbeats 1000000 in
theorem walkS_short (a : Option Addr) (cap : Nat) (zs : List Int) (w : World) (hl : zs.length ≤ 300000) (hz : IsB zs) (hc : 0 < zs.length → ∃ b off, a = some ⟨b, off, none⟩ ∧ b < w.heap.size ∧ At w b off zs) :
    Calls Try.prog 3 #[.slice a zs.length cap] w fun e w' => e = .returned (.bool true) ∧ Below w.heap.size w w' := by
  obtain ⟨zr, HZ⟩ : ∃ zr : Array Value, Hid (zr = (row .u8 z20).toArray) := ⟨_, rfl⟩
  have hz25 := zero25
  have hz24 := zero24
  rw [← HZ.out] at hz25 hz24
  obtain ⟨fr, HE⟩ : ∃ fr, Hid (fr = sha zs) := ⟨_, rfl⟩
  have hfl : fr.length = 20 := by rw [HE.out]; exact sha_len _
  have hi25 : (Try.prog.info? 25).map (·.size) = some (row .u8 fr).length := by rw [row_len, hfl]; exact Try.size25
  have hi24 : (Try.prog.info? 24).map (·.size) = some (row .u8 fr).length := by rw [row_len, hfl]; exact Try.size24
  have T2 : Hid ((Try.prog.info? 25).map (·.size) = some (row .u8 fr).toArray.size) := hid (by rw [row_size, hfl]; exact Try.size25)
  have T2' : Hid ((Try.prog.info? 24).map (·.size) = some (row .u8 fr).toArray.size) := hid (by rw [row_size, hfl]; exact Try.size24)
  have T3 : Hid ((row .u8 fr).toArray.all (·.oneCell') = true) := all_oneCell_toArray (row_one _ _)
  have hsm := same25 fr hfl
  go_enter Try.func3, Try.ntmps3
  go_wp2_with fail
  refine (roomy_any a cap zs w hl hc).mono ?_
  rintro e w1 ⟨rfl, hb1, hr⟩
  have hat : At w1 w.heap.size 0 zs := fun i hi => by rw [Nat.zero_add]; exact hr.cell i hi
  have hlt1 := hr.lt
  have HR1 : Hid (Room w1 w.heap.size zs) := hr
  have HB1 : Hid (Below w.heap.size w w1) := hb1
  clear hb1 hr
  go_wp2_with fail
  refine (sum6 (some ⟨w.heap.size, 0, none⟩) (zs.length + 2) zs w1 hl hz (fun _ => ⟨w.heap.size, 0, rfl, hlt1, hat, by omega⟩)).mono ?_
  rintro e w2 ⟨rfl, hb2⟩
  have hs2 := hb2.size
  have HR2 : Hid (Room w2 w.heap.size zs) := hid (by
    have r := HR1.out
    exact ⟨by omega, fun i hi => (hb2.cell (p := ⟨w.heap.size, i, none⟩) hlt1).trans (r.cell i hi), (hb2.cell (p := ⟨w.heap.size, zs.length, none⟩) hlt1).trans r.c71, (hb2.cell (p := ⟨w.heap.size, zs.length + 1, none⟩) hlt1).trans r.c72, fun i => (hb2.frozen (p := ⟨w.heap.size, i, none⟩) hlt1).trans (r.fz i)⟩)
  have HB2 : Hid (Below w.heap.size w w2) := HB1.out.trans (hb2.mono (by omega))
  have hw2 : w.heap.size < w2.heap.size := by omega
  clear hb2 hs2
  rw [← HE.out]
  have HT : Hid ((w2.alloc (.cells zr 25)).there w2.heap.size 0 (row .u8 fr).toArray.size) := hid (by rw [row_size, hfl, HZ.out]; exact there_row (heap_alloc_new w2 _) rfl)
  obtain ⟨w3, HW3⟩ : ∃ w3, Hid (w3 = (w2.alloc (.cells zr 25)).setCells w2.heap.size 0 (row .u8 fr).toArray.toList) := ⟨_, rfl⟩
  have HX3 : Hid (Below w2.heap.size w2 w3) := hid (by rw [HW3.out]; exact below_setCells (Nat.le_refl _) _ _ _ _ ((Below.refl _ _).alloc (Nat.le_refl _) _))
  have HS3 : Hid (w3.rangeAt w2.heap.size 0 (row .u8 fr)) := hid (by rw [HW3.out]; exact World.rangeAt_setCells_same _ w2.heap.size 0 _ (by have := HT.out; simpa using this))
  have hz3 : w3.heap.size = w2.heap.size + 1 := by rw [HW3.out, size_setCells]; simp
  have HB3 : Hid (Below w.heap.size w w3) := HB2.out.trans (HX3.out.mono (by omega))
  have HR3 : Hid (Room w3 w.heap.size zs) := hid (by
    have r := HR2.out
    exact ⟨by omega, fun i hi => (HX3.out.cell (p := ⟨w.heap.size, i, none⟩) hw2).trans (r.cell i hi), (HX3.out.cell (p := ⟨w.heap.size, zs.length, none⟩) hw2).trans r.c71, (HX3.out.cell (p := ⟨w.heap.size, zs.length + 1, none⟩) hw2).trans r.c72, fun i => (HX3.out.frozen (p := ⟨w.heap.size, i, none⟩) hw2).trans (r.fz i)⟩)
  replace hz3 := hid hz3
  go_wp2_with (refine wpList_store_mid rfl 25 _ _ rfl w2.heap.size 0 (row .u8 fr).toArray rfl rfl HT.out T2.out T3.out ?_; rw [← HW3.out])
  have hbw : ∀ b off, b < w.heap.size → At w b off zs → At w3 b off zs := fun b off h2 h3 i hi => (HB3.out.cell (p := ⟨b, off + i, none⟩) h2).trans (h3 i hi)
  refine (still_keep a cap w.heap.size zs w3 hl hz HR3.out (fun h => by obtain ⟨b, off, h1, h2, h3⟩ := hc h; exact ⟨b, off, h1, h2, hbw b off h2 h3⟩)).mono ?_
  rintro e w4 ⟨rfl, hg4⟩
  have hs4 := hg4.size
  have HS4 : Hid (w4.rangeAt w2.heap.size 0 (row .u8 fr)) := fun j v hv => (hg4.cell_far ⟨w2.heap.size, 0 + j, none⟩ (by show w2.heap.size < _; have := hz3.out; omega) (by simp; omega)).trans (HS3.out j v hv)
  have HB4 : Hid (Below w.heap.size w w4) := HB3.out.grown hg4 (by have := hz3.out; omega) (fun k hk => by simp at hk; omega)
  have hw4 : w2.heap.size < w4.heap.size := by have := hz3.out; omega
  clear hg4 hs4 HS3 hbw
  go_wp2_with fail
  refine (ref_any a cap zs w4 hl hz (fun h => by obtain ⟨b, off, h1, h2, h3⟩ := hc h; exact ⟨b, off, h1, by omega, fun i hi => (HB4.out.cell (p := ⟨b, off + i, none⟩) h2).trans (h3 i hi)⟩)).mono ?_
  rintro e w5 ⟨rfl, hb5⟩
  have hs5 := hb5.size
  have HS5 : Hid (w5.rangeAt w2.heap.size 0 (row .u8 fr)) := fun j v hv => (hb5.cell (p := ⟨w2.heap.size, 0 + j, none⟩) hw4).trans (HS4.out j v hv)
  have HB5 : Hid (Below w.heap.size w w5) := HB4.out.trans (hb5.mono (by omega))
  have hw5 : w2.heap.size < w5.heap.size := by omega
  clear hb5 hs5 HS4
  rw [← HE.out]
  have HT6 : Hid ((w5.alloc (.cells zr 24)).there w5.heap.size 0 (row .u8 fr).toArray.size) := hid (by rw [row_size, hfl, HZ.out]; exact there_row (heap_alloc_new w5 _) rfl)
  obtain ⟨w6, HW6⟩ : ∃ w6, Hid (w6 = (w5.alloc (.cells zr 24)).setCells w5.heap.size 0 (row .u8 fr).toArray.toList) := ⟨_, rfl⟩
  have HX6 : Hid (Below w5.heap.size w5 w6) := hid (by rw [HW6.out]; exact below_setCells (Nat.le_refl _) _ _ _ _ ((Below.refl _ _).alloc (Nat.le_refl _) _))
  have HS6 : w6.rangeAt w5.heap.size 0 (row .u8 fr) := by rw [HW6.out]; exact World.rangeAt_setCells_same _ w5.heap.size 0 _ (by have := HT6.out; simpa using this)
  have HQ6 : w6.rangeAt w2.heap.size 0 (row .u8 fr) := fun j v hv => (HX6.out.cell (p := ⟨w2.heap.size, 0 + j, none⟩) hw5).trans (HS5.out j v hv)
  have HB6 : Hid (Below w.heap.size w w6) := HB5.out.trans (HX6.out.mono (by omega))
  go_wp2_with (first
    | (refine wpList_store_mid rfl 24 _ _ rfl w5.heap.size 0 (row .u8 fr).toArray rfl rfl HT6.out T2'.out T3.out ?_; rw [← HW6.out])
    | (refine BigFrame.wpList_want (by rfl) (fun K hK => ?_); refine wp_load_mid 25 _ rfl w2.heap.size 0 rfl (row .u8 fr) _ HQ6 Try.underlying25 rfl hi25 ?_; refine hK _ _ ?_; clear hK K)
    | (refine BigFrame.wpList_want (by rfl) (fun K hK => ?_); refine wp_load_mid 24 _ rfl w5.heap.size 0 rfl (row .u8 fr) _ HS6 Try.underlying24 rfl hi24 ?_; refine hK _ _ ?_; clear hK K))
  go_ret
  exact ⟨rfl, HB6.out⟩
end Go.Proofs.Ytlkfanlodoiacaa
