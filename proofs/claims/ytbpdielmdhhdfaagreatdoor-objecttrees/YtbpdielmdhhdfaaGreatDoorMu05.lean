import Derived.Test.YtbpdielmdhhdfaaGreatDoorMu04
import Derived.Test.YtbpdielmdhhdfaaGreatDoorMu02
/- THE WALK OF 'gitlikelaw0.Still'. -/
namespace Go.Proofs.YtbpdielmdhhdfaaGreatDoor
open Go.RowKit

theorem same_any (a a' : Option Addr) (cap cap' : Nat) (zs : List Int) (w : World) (hl : zs.length ≤ 400000) (hc : 0 < zs.length → ∃ b off, a = some ⟨b, off, none⟩ ∧ At w b off zs) (hc' : 0 < zs.length → ∃ b off, a' = some ⟨b, off, none⟩ ∧ At w b off zs) :
    Calls Tryz.prog 16 #[.slice a zs.length cap, .slice a' zs.length cap'] w fun e w' => e = .returned (.bool true) ∧ ∃ n, w' = w.drewN n := by
  by_cases h0 : zs.length = 0
  · rw [h0]; exact same_none a a' cap cap' w
  · obtain ⟨b, off, rfl, h⟩ := hc (by omega)
    obtain ⟨b', off', rfl, h'⟩ := hc' (by omega)
    exact same_true b off cap b' off' cap' zs w hl h h'

/-- A row of bytes of one's own, of whatever content. -/
def Own (w : World) (g n : Nat) : Prop := ∀ i, i < n → ∃ v : Int, 0 ≤ v ∧ v ≤ 255 ∧ w.cell? ⟨g, i, none⟩ = some (.int .u8 v)

theorem Own.set {w : World} {g n : Nat} (h : Own w g n) (k : Nat) (v : Int) (h1 : 0 ≤ v) (h2 : v ≤ 255) : Own (w.setCell ⟨g, k, none⟩ (.int .u8 v)) g n := by
  intro i hi
  by_cases hk : i = k
  · subst hk
    obtain ⟨u, _, _, hu⟩ := h i hi
    exact ⟨v, h1, h2, World.cell?_setCell_same _ _ _ hu⟩
  · obtain ⟨u, a, b, hu⟩ := h i hi
    exact ⟨u, a, b, by rw [World.cell?_setCell_other _ _ _ _ (by intro h; simp only [Addr.mk.injEq] at h; omega)]; exact hu⟩
theorem below_drewH {B : Nat} {w0 w : World} (h : Below B w0 w) (n : Nat) : Below B w0 (w.drewN n) := h.trans ⟨rfl, rfl, rfl, Nat.le_refl _, fun _ _ => rfl⟩
theorem IsB.get {zs : List Int} (h : IsB zs) (k : Nat) : 0 ≤ zs[k]?.getD 0 ∧ zs[k]?.getD 0 ≤ 255 := by
  have := h.at k
  rw [List.getD_eq_getElem?_getD] at this
  omega
theorem Room.own {w : World} {g : Nat} {zs : List Int} (h : Room w g zs) (hz : IsB zs) : Own w g (zs.length + 2) := by
  intro i hi
  by_cases h1 : i < zs.length
  · exact ⟨_, (hz.get i).1, (hz.get i).2, by simpa using h.cell i h1⟩
  · by_cases h2 : i = zs.length
    · subst h2; exact ⟨71, by omega, by omega, h.c71⟩
    · obtain rfl : i = zs.length + 1 := by omega
      exact ⟨72, by omega, by omega, h.c72⟩
theorem xor85 (v : Int) (h1 : 0 ≤ v) (h2 : v ≤ 255) : ∃ v' : Int, bits .xor .u8 v 85 = v' ∧ 0 ≤ v' ∧ v' ≤ 255 := by
  refine ⟨_, rfl, ?_⟩
  rw [u8_xor _ _ h1 (by omega) (by omega) (by omega)]
  have := Nat.xor_lt_two_pow (n := 8) (x := v.toNat) (y := (85 : Int).toNat) (by omega) (by decide)
  omega

set_option maxHeartbeats 400000 in
theorem still_true (a : Option Addr) (cap g : Nat) (zs : List Int) (w : World) (hl : zs.length ≤ 300000) (hz : IsB zs) (hr : Room w g zs) (hc : 0 < zs.length → ∃ b off, a = some ⟨b, off, none⟩ ∧ b < g ∧ At w b off zs) :
    Calls Tryz.prog 12 #[.slice (some ⟨g, 0, none⟩) zs.length (zs.length + 2), .slice a zs.length cap] w fun e w' => e = .returned (.bool true) ∧ Below g w w' := by
  have c71 := hr.c71
  have c72 := hr.c72
  go_enter Tryz.func12, Tryz.ntmps12
  go_wp2_with (go_at_call 16; refine (same_any _ _ _ _ zs _ (by omega) (fun _ => ⟨g, 0, rfl, fun i hi => by rw [Nat.zero_add]; exact hr.cell i hi⟩) (fun h => by obtain ⟨b, off, h1, h2, h3⟩ := hc h; exact ⟨b, off, h1, h3⟩)).mono ?_; rintro e w1 ⟨rfl, nq, rfl⟩)
  go_loopw [8] (fun i wr => ∃ k : Nat, k ≤ zs.length + 2 ∧ i = .int .i64 k ∧ Own wr g (zs.length + 2) ∧ (∀ i, wr.frozen? ⟨g, i, none⟩ = false) ∧ Below g w wr) (fun i _ => zs.length + 2 - (intOf i).toNat)
  case atStart => exact ⟨0, Nat.zero_le _, rfl, hr.own hz, hr.fz, below_drewH (Below.refl _ _) _⟩
  case round =>
    obtain ⟨k, hk, rfl, hown, hfz, hbel⟩ := hrel
    clear c71 c72
    by_cases hlt : k < zs.length + 2
    · obtain ⟨v, hv1, hv2, hcell⟩ := hown k hlt
      obtain ⟨v', hx, hv3, hv4⟩ := xor85 v hv1 hv2
      have hf := hfz k
      go_wp2
      go_roundw
      case rel => exact ⟨k + 1, by omega, by go_num, hown.set k v' hv3 hv4, fun i => by rw [World.frozen?_setCell]; exact hfz i, hbel.setCell (Nat.le_refl _) _⟩
      case measure => simp [intOf]; omega
    · go_wp2
      go_ret
      exact ⟨rfl, hbel⟩
end Go.Proofs.YtbpdielmdhhdfaaGreatDoor
/- Package object: 'header'. -/
namespace Go.Proofs.YtbpdielmdhhdfaaGreatDoor
open Go.RowKit
set_option linter.unusedVariables false
set_option linter.unusedSimpArgs false
theorem join_two (x y : List UInt8) : Lib.join [x, y] [32] = x ++ 32 :: y := by simp [Lib.join, List.intercalate]
theorem kN_len (k : Int) : (kN k).data.toList.length ≤ 6 := by
  rw [kN_list]
  split
  · decide
  · split
    · decide
    · split
      · decide
      · split <;> decide
theorem dig_len : ∀ (n m : Nat), m < 10 ^ (n + 1) → (Lib.decDigits m).length ≤ n + 1
  | 0, m, h => by rw [Lib.decDigits, dif_pos (by simpa using h)]; simp
  | n + 1, m, h => by
    rw [Lib.decDigits]
    split
    · simp
    · have := dig_len n (m / 10) (by rw [Nat.pow_succ] at h; omega)
      simp
      omega
theorem h0_len (k : Int) (n : Nat) (hn : n ≤ 400000) : (h0 k n).length ≤ 13 := by
  have h1 := kN_len k
  have h2 := dig_len 5 n (by omega)
  unfold h0
  simp only [List.length_append, List.length_cons]
  omega
theorem str_app (x y : List UInt8) : (⟨x.toArray⟩ : ByteArray) ++ ⟨y.toArray⟩ = ⟨(x ++ y).toArray⟩ := by
  rw [ByteArray.mk_append_mk]
set_option maxRecDepth 20000 in
set_option maxHeartbeats 1000000 in
theorem header_any (k : Int) (a : Option Addr) (n cap : Nat) (hn : n ≤ 400000) (w : World) (ht : Tab w) :
    Calls Tryz.prog 34 #[.agg #[.int .i64 k, .slice a n cap]] w fun e w' => e = .returned (.string ⟨(hd k n).toArray⟩) ∧ Below w.heap.size w w' := by
  obtain ⟨w0, HW0⟩ : ∃ w0, Hid (w.alloc (.cells #[.int .i64 k, .slice a n cap] 25) = w0) := ⟨_, rfl⟩
  obtain ⟨g, HG⟩ : ∃ g, Hid (w.heap.size = g) := ⟨_, rfl⟩
  have HB0 : Hid (Below g w w0) := by rw [← HW0.out, ← HG.out]; exact (Below.refl _ w).alloc (Nat.le_refl _) _
  have hg0 : g < w0.heap.size := by rw [← HW0.out, ← HG.out]; simp
  have hc0 : w0.cell? ⟨g, 0, none⟩ = some (.int .i64 k) := by rw [← HW0.out, ← HG.out]; simp
  have hc1 : w0.cell? ⟨g, 1, none⟩ = some (.slice a n cap) := by rw [← HW0.out, ← HG.out]; simp
  have HT0 : Hid (Tab w0) := ht.below (by rw [HG.out]; exact HB0.out)
  have HI : Hid (∀ j, Calls Tryz.prog 72 #[.int .i64 n] (w0.drewN j) fun e w' => e = .returned (.string ⟨(Lib.decDigits n).toArray⟩) ∧ Below w0.heap.size w0 w') := fun j => by
    refine (itoa_any n hn (w0.drewN j) (HT0.out.below (below_drewH (Below.refl _ _) _))).mono ?_
    rintro e w' ⟨rfl, hb⟩
    exact ⟨rfl, (below_drewH (Below.refl _ _) j).trans hb⟩
  have HWd : Hid (∀ (w1 : World), Calls Tryz.prog 46 #[.slice (some ⟨w1.heap.size, 0, none⟩) 2 2] (w1.alloc (.cells #[.string (kN k), .string ⟨(Lib.decDigits n).toArray⟩] 9)) fun e w' => e = .returned (.string ⟨(h0 k n).toArray⟩) ∧ Below w1.heap.size w1 w') := fun w1 => by
    have hj : (Lib.join ([kN k, ⟨(Lib.decDigits n).toArray⟩].map (·.data.toList)) [32]) = h0 k n := by
      simp only [List.map_cons, List.map_nil, join_two]; rfl
    refine (words_any w1.heap.size 0 2 [kN k, ⟨(Lib.decDigits n).toArray⟩] _ ?_ ?_ (by simp) (by simp) (by rw [hj]; have := h0_len k n hn; omega)).mono ?_
    · intro i x hx
      rcases i with _ | _ | i
      · simp at hx; subst hx; simp
      · simp at hx; subst hx; simp
      · simp at hx
    · simp
    · rintro e w' ⟨rfl, hb⟩
      rw [hj]
      refine ⟨rfl, Below.trans ((Below.refl _ w1).alloc (Nat.le_refl _) _) (hb.mono ?_)⟩
      simp
  obtain ⟨S, HS⟩ : ∃ S : ByteArray, Hid (S = ⟨(h0 k n).toArray⟩) := ⟨_, rfl⟩
  have hS : S.size ≤ 13 := by rw [HS.out]; simpa [ByteArray.size] using h0_len k n hn
  have hS1 : ¬ 9223372036854775807 < S.size + 1 := by omega
  have hS2 : ¬ 9223372036854775807 ≤ S.size := by omega
  have HE : Hid (S ++ ⟨#[0]⟩ = ⟨(hd k n).toArray⟩) := by
    rw [HS.out, show (⟨#[0]⟩ : ByteArray) = ⟨[0].toArray⟩ from rfl]
    exact str_app _ _
  rw [← HS.out] at HWd
  obtain ⟨Dg, HDg⟩ : ∃ D : ByteArray, Hid (D = ⟨(Lib.decDigits n).toArray⟩) := ⟨_, rfl⟩
  obtain ⟨Kn, HKn⟩ : ∃ D : ByteArray, Hid (D = kN k) := ⟨_, rfl⟩
  have HK : Hid (∀ w, Calls Tryz.prog 65 #[.int .i64 k] w fun e w' => e = .returned (.string (kN k)) ∧ w' = w) := fun w => kindName_any k w
  rw [← HDg.out] at HI HWd
  rw [← HKn.out] at HWd HK
  go_enter Tryz.func34, Tryz.ntmps34
  rw [HG.out]
  go_wp2_with fail
  rw [HW0.out, HG.out]
  clear ht
  go_region_with (first
    | (go_at_call 65; refine (HK.out _).mono ?_; rintro ev wk ⟨rfl, rfl⟩)
    | (go_at_call 72; refine (HI.out _).mono ?_; rintro ev w1 ⟨rfl, hb1⟩; have HB1 : Hid (Below w0.heap.size w0 w1) := hb1; clear hb1 HI)
    | (go_at_call 46; refine (HWd.out _).mono ?_; rintro ev w2 ⟨rfl, hb2⟩; have HB2 : Hid (Below w1.heap.size w1 w2) := hb2; clear hb2 HWd))
  all_goals
    go_wp2
    go_ret
    exact ⟨(show _ = Ending.returned (.string (S ++ ⟨#[0]⟩)) from rfl).trans (by rw [HE.out]), HB0.out.trans ((HB1.out.mono (Nat.le_of_lt hg0)).trans (HB2.out.mono (Nat.le_trans (Nat.le_of_lt hg0) HB1.out.size)))⟩
end Go.Proofs.YtbpdielmdhhdfaaGreatDoor
/- 'with', walked. -/
namespace Go.Proofs.YtbpdielmdhhdfaaGreatDoor
open Go.RowKit
set_option linter.unusedVariables false

theorem kindAt (i : Nat) (hi : i < 4) : ∃ f : FuncId, (∀ w, (Instr.index 232 (.agg kindsV) (.int .i64 i)).run Tryz.prog w = .ok (.agg #[.func (.func f) #[] #[], .int .u32 (ki (20 * i))]) w) ∧
    (∀ (j : Nat) (b c d : Int) (w : World), j < 20 → U b → U c → U d → Calls Tryz.prog f #[.int .u32 b, .int .u32 c, .int .u32 d] w fun e w' => e = .returned (.int .u32 (fi (20 * i + j) b c d)) ∧ w = w') ∧ (f = 185 ∨ f = 186 ∨ f = 187) := by
  match i, hi with
  | 0, _ => exact ⟨185, kind0, fun j b c d w hj h1 h2 h3 => by rw [fi, if_pos (by omega)]; exact choice_any b c d w h1 h2 h3, .inl rfl⟩
  | 1, _ => exact ⟨186, kind1, fun j b c d w hj h1 h2 h3 => by rw [fi, if_neg (by omega), if_pos (by omega)]; exact parity_any b c d w h1 h2 h3, .inr (.inl rfl)⟩
  | 2, _ => exact ⟨187, kind2, fun j b c d w hj h1 h2 h3 => by rw [fi, if_neg (by omega), if_neg (by omega), if_pos (by omega)]; exact majority_any b c d w h1 h2 h3, .inr (.inr rfl)⟩
  | 3, _ => exact ⟨186, kind3, fun j b c d w hj h1 h2 h3 => by rw [fi, if_neg (by omega), if_neg (by omega), if_neg (by omega)]; exact parity_any b c d w h1 h2 h3, .inr (.inl rfl)⟩
theorem below_drewN (B : Nat) (w : World) (n : Nat) : Below B w (w.drewN n) := ⟨rfl, rfl, rfl, Nat.le_refl _, fun _ _ => rfl⟩
theorem same {P : Program} {f : FuncId} {args : Array Value} {w : World} {v : Value} (h : Calls P f args w fun e w' => e = .returned v ∧ w = w') : Calls P f args w fun e w' => e = .returned v ∧ w' = w := h.mono fun _ _ h => ⟨h.1, h.2.symm⟩
theorem kindsV_size : kindsV.size = 8 := rfl

set_option maxRecDepth 20000 in
set_option maxHeartbeats 2000000 in
theorem with_any (s : S5) (zs : List Int) (w : World) (hs : s.ok) (hl : zs.length = 64) (hz : IsB zs) :
    Calls Tryz.prog 115 #[.agg (row .u32 s.l).toArray, .agg (row .u8 zs).toArray] w fun e w' => e = .returned (.agg (row .u32 (comp s zs).l).toArray) ∧ Below w.heap.size w w' := by
  have hi41 : (Tryz.prog.info? 182).map (·.size) = some (row .u8 zs).length := by rw [row_len, hl]; exact Tryz.size182
  obtain ⟨arr, HA⟩ : ∃ arr, Hid (arr = row .u8 zs) := ⟨_, rfl⟩
  rw [← HA.out]
  rw [← HA.out] at hi41
  have hasz : arr.toArray.size = 64 := by rw [HA.out, row_size]; exact hl
  obtain ⟨kv, HK⟩ : ∃ kv, Hid (kv = kindsV) := ⟨_, rfl⟩
  obtain ⟨W, HW⟩ : ∃ W, Hid (W = spread zs) := ⟨_, rfl⟩
  have hWl : W.length = 80 := by rw [HW.out]; exact spread_len zs
  have hWw : IsW W := by rw [HW.out]; exact spread_isW zs hz
  obtain ⟨a0, b0, c0, d0, e0⟩ := s
  obtain ⟨ha0, hb0, hc0, hd0, he0⟩ := hs
  have HS : Hid (S5.ok ⟨a0, b0, c0, d0, e0⟩) := ⟨ha0, hb0, hc0, hd0, he0⟩
  simp only [S5.l, row, List.map_cons, List.map_nil]
  have H3 : Hid (_ ∧ _) := heap_alloc3 w (.cells #[.int .u32 a0, .int .u32 b0, .int .u32 c0, .int .u32 d0, .int .u32 e0] 181) (.cells arr.toArray 182) (.cells #[.int .u32 0, .int .u32 0, .int .u32 0, .int .u32 0, .int .u32 0] 181)
  have HB0 : Hid (Below w.heap.size w (((w.alloc (.cells #[.int .u32 a0, .int .u32 b0, .int .u32 c0, .int .u32 d0, .int .u32 e0] 181)).alloc (.cells arr.toArray 182)).alloc (.cells #[.int .u32 0, .int .u32 0, .int .u32 0, .int .u32 0, .int .u32 0] 181))) := (((Below.refl _ w).alloc (Nat.le_refl _) _).alloc (by simp) _).alloc (by simp; omega) _
  obtain ⟨zr, HZ⟩ : ∃ zr : Array Value, Hid (zr = (row .u32 z80).toArray) := ⟨_, rfl⟩
  have hzv := zero47
  rw [← HZ.out] at hzv
  go_enter Tryz.func115, Tryz.ntmps115
  go_wp2_with (refine wpList_load_mid rfl 182 _ rfl (w.heap.size + 1) 0 rfl arr _ (range_row H3.out.1.2) Tryz.underlying182 rfl hi41 ?_)
  rw [HA.out]
  refine (spread_any zs _ hl hz).mono ?_
  rintro e w1 ⟨rfl, hb⟩
  rw [← HA.out, ← HW.out]
  rw [← HA.out] at hb
  have hb' : Below (w.heap.size + 1 + 1 + 1) (((w.alloc (.cells #[.int .u32 a0, .int .u32 b0, .int .u32 c0, .int .u32 d0, .int .u32 e0] 181)).alloc (.cells arr.toArray 182)).alloc (.cells #[.int .u32 0, .int .u32 0, .int .u32 0, .int .u32 0, .int .u32 0] 181)) w1 := by simpa using hb
  have hz1 : w.heap.size + 1 + 1 + 1 ≤ w1.heap.size := by simpa using hb'.size
  have F0 : Hid (w1.heap[w.heap.size]? = some (.cells #[.int .u32 a0, .int .u32 b0, .int .u32 c0, .int .u32 d0, .int .u32 e0] 181 (0, 0))) := (hb'.block _ (by omega)).trans H3.out.1.1
  have F2 : Hid (w1.heap[w.heap.size + 1 + 1]? = some (.cells #[.int .u32 0, .int .u32 0, .int .u32 0, .int .u32 0, .int .u32 0] 181 (0, 0))) := (hb'.block _ (by omega)).trans H3.out.2
  have HB1 : Hid (Below w.heap.size w w1) := HB0.out.trans (hb'.mono (by omega))
  clear hb hb' H3 HB0
  have HT : Hid ((w1.alloc (.cells zr 201)).there w1.heap.size 0 (row .u32 W).toArray.size) := hid (by rw [row_size, hWl, HZ.out]; exact there_row (heap_alloc_new w1 _) (by simp [z80]))
  have T2 : Hid ((Tryz.prog.info? 201).map (·.size) = some (row .u32 W).toArray.size) := hid (by rw [row_size, hWl]; exact Tryz.size201)
  have T3 : Hid ((row .u32 W).toArray.all (·.oneCell') = true) := all_oneCell_toArray (row_one _ _)
  obtain ⟨w2, HW2⟩ : ∃ w2, Hid (w2 = (w1.alloc (.cells zr 201)).setCells w1.heap.size 0 (row .u32 W).toArray.toList) := ⟨_, rfl⟩
  have HS2 : Hid (w2.rangeAt w1.heap.size 0 (row .u32 W)) := hid (by rw [HW2.out]; exact World.rangeAt_setCells_same _ w1.heap.size 0 _ (by have := HT.out; simpa using this))
  have HX2 : Hid (Below w1.heap.size w1 w2) := hid (by rw [HW2.out]; exact below_setCells (Nat.le_refl _) _ _ _ _ ((Below.refl _ _).alloc (Nat.le_refl _) _))
  have hz2 : w2.heap.size = w1.heap.size + 1 := by rw [HW2.out, size_setCells]; simp
  have HZ2 : Hid (w1.heap.size < w2.heap.size) := hid (by omega)
  clear hz2
  have G0 : Hid (w2.heap[w.heap.size]? = some (.cells #[.int .u32 a0, .int .u32 b0, .int .u32 c0, .int .u32 d0, .int .u32 e0] 181 (0, 0))) := (HX2.out.block _ (by omega)).trans F0.out
  have G2 : Hid (w2.heap[w.heap.size + 1 + 1]? = some (.cells #[.int .u32 0, .int .u32 0, .int .u32 0, .int .u32 0, .int .u32 0] 181 (0, 0))) := (HX2.out.block _ (by omega)).trans F2.out
  have r0 : w2.cell? ⟨w.heap.size, 0, none⟩ = some (.int .u32 a0) := by rw [cell_of_row w2 w.heap.size 0 _ 181 _ G0.out]; rfl
  have r1 : w2.cell? ⟨w.heap.size, 1, none⟩ = some (.int .u32 b0) := by rw [cell_of_row w2 w.heap.size 1 _ 181 _ G0.out]; rfl
  have r2 : w2.cell? ⟨w.heap.size, 2, none⟩ = some (.int .u32 c0) := by rw [cell_of_row w2 w.heap.size 2 _ 181 _ G0.out]; rfl
  have r3 : w2.cell? ⟨w.heap.size, 3, none⟩ = some (.int .u32 d0) := by rw [cell_of_row w2 w.heap.size 3 _ 181 _ G0.out]; rfl
  have r4 : w2.cell? ⟨w.heap.size, 4, none⟩ = some (.int .u32 e0) := by rw [cell_of_row w2 w.heap.size 4 _ 181 _ G0.out]; rfl
  go_wp2_with (refine wpList_store_mid rfl 201 _ _ rfl w1.heap.size 0 (row .u32 W).toArray rfl rfl HT.out T2.out T3.out ?_; rw [← HW2.out])
  go_quiet (fail)
  go_wp2_with fail
  refine (kinds_any _).mono ?_
  rintro e w3 ⟨rfl, hb⟩
  have HX3 : Hid (Below w2.heap.size w2 w3) := (below_drewN _ w2 nq).trans hb
  clear hb r0 r1 r2 r3 r4
  have hz3 : w2.heap.size ≤ w3.heap.size := HX3.out.size
  have HS3 : Hid (w3.rangeAt w1.heap.size 0 (row .u32 W)) := fun j v hv => (HX3.out.cell (p := ⟨w1.heap.size, 0 + j, none⟩) HZ2.out).trans (HS2.out j v hv)
  have HZ3 : Hid (w1.heap.size < w3.heap.size) := Nat.lt_of_lt_of_le HZ2.out hz3
  have HB3 : Hid (Below w.heap.size w w3) := (HB1.out.trans (HX2.out.mono (by omega))).trans (HX3.out.mono (by have := HX2.out.size; omega))
  have G0 : Hid (w3.heap[w.heap.size]? = some (.cells #[.int .u32 a0, .int .u32 b0, .int .u32 c0, .int .u32 d0, .int .u32 e0] 181 (0, 0))) := (HX3.out.block _ (by have := HZ2.out; omega)).trans G0.out
  have G2 : Hid (w3.heap[w.heap.size + 1 + 1]? = some (.cells #[.int .u32 0, .int .u32 0, .int .u32 0, .int .u32 0, .int .u32 0] 181 (0, 0))) := (HX3.out.block _ (by have := HZ2.out; omega)).trans G2.out
  have hw13 : w.heap.size + 1 + 1 < w3.heap.size := by have := HZ3.out; omega
  clear HX3 HX2 HW2 HB1 F0 F2 HT HS2 HZ2 hz3 hz1
  rw [← HK.out]
  go_wp2
  go_loopg [6, 7, 8, 9, 10, 29] 4 (fun k a b c d e i wr => ∃ (j : Nat) (s : S5), j ≤ 4 ∧ k = 4 - j ∧ i = .int .i64 j ∧ a = .int .u32 s.a ∧ b = .int .u32 s.b ∧ c = .int .u32 s.c ∧ d = .int .u32 s.d ∧ e = .int .u32 s.e ∧ Hid (s = rds W ⟨a0, b0, c0, d0, e0⟩ (20 * j)) ∧ Hid (Below w3.heap.size w3 wr))
  case atStart => exact ⟨0, ⟨a0, b0, c0, d0, e0⟩, by omega, rfl, rfl, rfl, rfl, rfl, rfl, rfl, rfl, Below.refl _ _⟩
  case round =>
    obtain ⟨wo, rfl⟩ : ∃ wo, wo = wr := ⟨_, rfl⟩
    obtain ⟨j, ⟨a, b, c, d, e⟩, hj, hk, rfl, rfl, rfl, rfl, rfl, rfl, HSt, HB⟩ := hrel
    by_cases hlt : j < 4
    · obtain ⟨f, hidx, hcall, hf⟩ := kindAt j hlt
      rw [← HK.out] at hidx
      obtain ⟨kq, HKQ⟩ : ∃ q, Hid (q = ki (20 * j)) := ⟨_, rfl⟩
      rw [← HKQ.out] at hidx
      have hwz : w3.heap.size ≤ wo.heap.size := HB.out.size
      obtain ⟨m, HM⟩ : ∃ m, Hid (m = 20 * j) := ⟨_, rfl⟩
      have hm60 : m ≤ 60 := by have := HM.out; omega
      have hjm : (j : Int) * 20 = (m : Int) := by have := HM.out; omega
      have hjm2 : ((j : Int) + 1) * 20 = ((m + 20 : Nat) : Int) := by have := HM.out; omega
      have HT : Hid ((wo.alloc (.cells #[.nilFunc, .int .u32 0] 231)).there wo.heap.size 0 2) := there_cells (heap_alloc_new wo _) rfl
      obtain ⟨w4, HW4⟩ : ∃ w4, Hid (w4 = (wo.alloc (.cells #[.nilFunc, .int .u32 0] 231)).setCells wo.heap.size 0 (#[.func (.func f) #[] #[], .int .u32 kq] : Array Value).toList) := ⟨_, rfl⟩
      have HR4 : Hid (w4.rangeAt wo.heap.size 0 [.func (.func f) #[] #[], .int .u32 kq]) := hid (by rw [HW4.out]; exact World.rangeAt_setCells_same _ wo.heap.size 0 _ HT.out)
      have k0 : w4.cell? ⟨wo.heap.size, 0, none⟩ = some (.func (.func f) #[] #[]) := HR4.out 0 _ rfl
      have k1 : w4.cell? ⟨wo.heap.size, 1, none⟩ = some (.int .u32 kq) := HR4.out 1 _ rfl
      have HX4 : Hid (Below wo.heap.size wo w4) := hid (by rw [HW4.out]; exact below_setCells (Nat.le_refl _) _ _ _ _ ((Below.refl _ _).alloc (Nat.le_refl _) _))
      have HB4 : Hid (Below w3.heap.size w3 w4) := HB.out.trans (HX4.out.mono hwz)
      have HC4 : Hid (∀ i, i < 80 → w4.cell? ⟨w1.heap.size, i, none⟩ = some (.int .u32 (W.getD i 0))) := fun i hi => (HB4.out.cell (p := ⟨w1.heap.size, i, none⟩) HZ3.out).trans (by have := HS3.out i _ (row_at .u32 W i (by omega)); rwa [Nat.zero_add] at this)
      clear HX4 HB
      have hsl := fun w => slice47 w1.heap.size m w hm60
      obtain ⟨cp, HCP⟩ : ∃ cp : Nat, Hid (cp = 80 - m) := ⟨_, rfl⟩
      rw [← HCP.out] at hsl
      rcases hf with rfl | rfl | rfl
      all_goals
        go_wp2_with (refine wpList_store_mid rfl 231 _ _ rfl wo.heap.size 0 _ rfl rfl HT.out Tryz.size231 (by simp [Value.oneCell']) ?_; rw [← HW4.out])
        go_loopg [6, 7, 8, 9, 10, 40] 20 (fun k a b c d e i wr => ∃ (n : Nat) (s : S5), n ≤ 20 ∧ k = 20 - n ∧ i = .int .i64 n ∧ a = .int .u32 s.a ∧ b = .int .u32 s.b ∧ c = .int .u32 s.c ∧ d = .int .u32 s.d ∧ e = .int .u32 s.e ∧ Hid (s = rds W ⟨a0, b0, c0, d0, e0⟩ (m + n)) ∧ Hid (∃ q, wr = w4.drewN q))
        case atStart => exact ⟨0, ⟨a, b, c, d, e⟩, by omega, rfl, rfl, rfl, rfl, rfl, rfl, rfl, hid (by rw [Nat.add_zero, HM.out]; exact HSt.out), ⟨0, rfl⟩⟩
        case round =>
          clear HSt
          obtain ⟨n, ⟨a, b, c, d, e⟩, hn, hk2, rfl, rfl, rfl, rfl, rfl, rfl, HSt, HQ⟩ := hrel
          by_cases hn20 : n < 20
          · obtain ⟨ha, hb, hc, hd, he⟩ : S5.ok ⟨a, b, c, d, e⟩ := by rw [HSt.out]; exact rds_ok W _ HS.out _
            obtain ⟨x, HX⟩ : ∃ x, Hid (x = W.getD (m + n) 0) := ⟨_, rfl⟩
            have hx : U x := by rw [HX.out]; exact hWw.at _
            have hcl : wr.cell? ⟨w1.heap.size, m + n, none⟩ = some (.int .u32 x) := by obtain ⟨q, hq⟩ := HQ.out; rw [hq, HX.out]; exact HC4.out _ (by omega)
            have k0' : wr.cell? ⟨wo.heap.size, 0, none⟩ = w4.cell? ⟨wo.heap.size, 0, none⟩ := by obtain ⟨q, hq⟩ := HQ.out; rw [hq]; rfl
            have k1' : wr.cell? ⟨wo.heap.size, 1, none⟩ = some (.int .u32 kq) := by obtain ⟨q, hq⟩ := HQ.out; rw [hq]; exact k1
            rw [k0] at k0'
            have hcn := fun w => same (hcall n b c d w hn20 hb hc hd)
            rw [← HM.out] at hcn
            obtain ⟨fv, HF⟩ : ∃ fv, Hid (fv = fi (m + n) b c d) := ⟨_, rfl⟩
            have hfv : U fv := by rw [HF.out]; exact fi_bd _ _ _ _
            rw [← HF.out] at hcn
            obtain ⟨t5, HT5⟩ : ∃ t, Hid (t = turn5 a) := ⟨_, rfl⟩
            have ht5 : U t5 := by rw [HT5.out]; exact turn5_bd a
            have hr5 := fun w => same (rot5 a w ha)
            rw [← HT5.out] at hr5
            have hr30 := fun w => rot30 b w hb
            have hkq : U kq := by rw [HKQ.out]; exact ki_bd _
            obtain ⟨ha1, ha2⟩ := ha
            obtain ⟨he1, he2⟩ := he
            obtain ⟨hx1, hx2⟩ := hx
            obtain ⟨hf1, hf2⟩ := hfv
            obtain ⟨ht1, ht2⟩ := ht5
            obtain ⟨hq1, hq2⟩ := hkq
            go_wp2
            go_quiet (first | (go_at_call 148; exact Calls.quiet_of_same (hr5 _)) | (go_at_call 185; exact Calls.quiet_of_same (hcn _)) | (go_at_call 186; exact Calls.quiet_of_same (hcn _)) | (go_at_call 187; exact Calls.quiet_of_same (hcn _)))
            go_wp2_with (go_at_call 148; refine (hr30 _).mono ?_; rintro e w' ⟨rfl, rfl⟩)
            go_roundg (20 - (n + 1))
            case measure => omega
            case rel =>
              refine ⟨n + 1, rd W (m + n) ⟨a, b, c, d, e⟩, by omega, rfl, by go_num, ?_, rfl, rfl, rfl, rfl, hid ?_, ?_⟩
              · simp only [rd]
                rw [← HT5.out, ← HF.out, ← HX.out, HM.out, ki_same j n hn20, ← HKQ.out]
              · rw [HSt.out]; rfl
              · obtain ⟨q, hq⟩ := HQ.out
                exact ⟨q + nq, by rw [hq, World.drewN_drewN]⟩
          · obtain rfl : n = 20 := by omega
            go_wp2
            go_roundg (4 - (j + 1))
            case measure => omega
            case rel =>
              obtain ⟨q, hq⟩ := HQ.out
              exact ⟨j + 1, ⟨a, b, c, d, e⟩, by omega, rfl, by go_num, rfl, rfl, rfl, rfl, rfl, hid (by rw [HSt.out, HM.out]; rfl), hid (by rw [hq]; exact HB4.out.trans (below_drewN _ _ _))⟩
    · obtain rfl : j = 4 := by omega
      have hwz : w3.heap.size ≤ wo.heap.size := HB.out.size
      have K0 : Hid (wo.heap[w.heap.size]? = some (.cells #[.int .u32 a0, .int .u32 b0, .int .u32 c0, .int .u32 d0, .int .u32 e0] 181 (0, 0))) := (HB.out.block _ (by omega)).trans G0.out
      have K2 : Hid (wo.there (w.heap.size + 1 + 1) 0 5) := there_cells ((HB.out.block _ (by omega)).trans G2.out) rfl
      have r0 : wo.cell? ⟨w.heap.size, 0, none⟩ = some (.int .u32 a0) := by rw [cell_of_row wo w.heap.size 0 _ 181 _ K0.out]; rfl
      have r1 : wo.cell? ⟨w.heap.size, 1, none⟩ = some (.int .u32 b0) := by rw [cell_of_row wo w.heap.size 1 _ 181 _ K0.out]; rfl
      have r2 : wo.cell? ⟨w.heap.size, 2, none⟩ = some (.int .u32 c0) := by rw [cell_of_row wo w.heap.size 2 _ 181 _ K0.out]; rfl
      have r3 : wo.cell? ⟨w.heap.size, 3, none⟩ = some (.int .u32 d0) := by rw [cell_of_row wo w.heap.size 3 _ 181 _ K0.out]; rfl
      have r4 : wo.cell? ⟨w.heap.size, 4, none⟩ = some (.int .u32 e0) := by rw [cell_of_row wo w.heap.size 4 _ 181 _ K0.out]; rfl
      have HF : Hid (comp ⟨a0, b0, c0, d0, e0⟩ zs = ⟨(a0 + a) % 4294967296, (b0 + b) % 4294967296, (c0 + c) % 4294967296, (d0 + d) % 4294967296, (e0 + e) % 4294967296⟩) := hid (by unfold comp; rw [← HW.out, ← HSt.out]; rfl)
      have HBF : Hid (Below w.heap.size w wo) := HB3.out.trans (HB.out.mono (by omega))
      obtain ⟨ha, hb, hc, hd, he⟩ : S5.ok ⟨a, b, c, d, e⟩ := by rw [HSt.out]; exact rds_ok W _ HS.out _
      obtain ⟨ha1, ha2⟩ := ha
      obtain ⟨hb1, hb2⟩ := hb
      obtain ⟨hc1, hc2⟩ := hc
      obtain ⟨hd1, hd2⟩ := hd
      obtain ⟨he1, he2⟩ := he
      obtain ⟨ia1, ia2⟩ := ha0
      obtain ⟨ib1, ib2⟩ := hb0
      obtain ⟨ic1, ic2⟩ := hc0
      obtain ⟨id1, id2⟩ := hd0
      obtain ⟨ie1, ie2⟩ := he0
      go_wp2_with (refine wpList_store_mid rfl 181 _ _ rfl (w.heap.size + 1 + 1) 0 _ rfl rfl K2.out Tryz.size181 (by simp [Value.oneCell']) ?_)
      refine bodyPost_ret (results_mid Tryz.results115 _ _ (w.heap.size + 1 + 1) _ _ rfl (World.rangeAt_setCells_same wo (w.heap.size + 1 + 1) 0 _ K2.out) Tryz.underlying181 rfl Tryz.size181) rfl ⟨?_, below_setCells (by omega) _ _ _ _ HBF.out⟩
      rw [HF.out]
end Go.Proofs.YtbpdielmdhhdfaaGreatDoor
