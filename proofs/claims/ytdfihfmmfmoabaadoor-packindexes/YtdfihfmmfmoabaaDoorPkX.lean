/- The law's 'readsIdx'. -/
import Derived.Test.YtdfihfmmfmoabaaDoorPkV
import Derived.Test.YtdfihfmmfmoabaaDoorPkW
import Derived.Test.YtdfihfmmfmoabaaDoorPkR
namespace Go.Proofs.YtdfihfmmfmoabaaDoor
open Go.RowKit Go.Shelf
variable [Inhabited Pn]
set_option linter.unusedVariables false
set_option linter.unusedSectionVars false
set_option linter.unusedSimpArgs false
theorem Room.below {w w' : World} {g : Nat} {zs : List Int} (h : Room w g zs) (hb : Below w.heap.size w w') : Room w' g zs where
  lt := Nat.lt_of_lt_of_le h.lt hb.size
  cell := fun j hj => (hb.cell (p := ⟨g, j, none⟩) h.lt).trans (h.cell j hj)
  c71 := (hb.cell (p := ⟨g, zs.length, none⟩) h.lt).trans h.c71
  c72 := (hb.cell (p := ⟨g, zs.length + 1, none⟩) h.lt).trans h.c72
  fz := fun j => (World.frozen?_of_block (a := ⟨g, j, none⟩) (hb.block g h.lt)).trans (h.fz j)
theorem Room.sl {w : World} {g : Nat} {zs : List Int} (h : Room w g zs) : Sl w (some ⟨g, 0, none⟩) (zs.length + 2) zs :=
  ⟨by omega, fun _ => ⟨g, 0, rfl, h.lt, fun i hi => by rw [Nat.zero_add]; exact h.cell i hi⟩, fun e => by cases e⟩
/-- What the world holds that errors want. -/
def Hand (w : World) : Prop := w.cell? ⟨0, 0, none⟩ = some (.iface 98 (.agg #[.pointer (some ⟨2, 27, none⟩)]))
theorem Hand.lt {w : World} (h : Hand w) : 0 < w.heap.size := by
  rcases Nat.lt_or_ge 0 w.heap.size with h2 | h2
  · exact h2
  · unfold Hand at h
    simp [World.cell?, Array.getElem?_eq_none h2] at h
theorem Hand.below {w w' : World} {B : Nat} (h : Hand w) (hB : 0 < B) (hb : Below B w w') : Hand w' := (hb.cell (p := ⟨0, 0, none⟩) hB).trans h
theorem one_id : ∀ {l : List Pl}, (l.map (·.id)).Nodup → ∀ {p x : Pl}, p ∈ l → x ∈ l → p.id = x.id → p = x
  | [], _, _, _, hp, _, _ => by cases hp
  | y :: t, hn, p, x, hp, hx, he => by
    rw [List.map_cons, List.nodup_cons] at hn
    rcases List.mem_cons.1 hp with hp | hp
    · rcases List.mem_cons.1 hx with hx | hx
      · rw [hp, hx]
      · exact absurd (List.mem_map.2 ⟨x, hx, by rw [← he, hp]⟩) hn.1
    · rcases List.mem_cons.1 hx with hx | hx
      · exact absurd (List.mem_map.2 ⟨p, hp, by rw [he, hx]⟩) hn.1
      · exact one_id hn.2 hp hx he
/-- What the last test reads. -/
structure QF (b o : Nat) (R : List Value) (G : Nat) (Y : List Value) (W : World) : Prop where
  r : W.rangeAt b o R
  y : W.rangeAt G 0 Y
set_option maxRecDepth 20000 in
set_option maxHeartbeats 8000000 in
theorem readsIdx_any (a : Option Addr) (cap : Nat) (B y : List Int) (w : World) (hz : IsB B) (hlen : B.length ≤ 20000) (hS : Sl w a cap B) (hy : y.length = 20) (hyb : IsB y) (hw : Hand w) :
    Calls Tryd.prog 9 #[.slice a B.length cap, .agg (row .u8 y).toArray] w fun e w' => e = .returned (.bool true) ∧ Below w.heap.size w w' := by
  obtain ⟨G, HG⟩ : ∃ G, Hid (w.heap.size = G) := ⟨_, rfl⟩
  have hG0 : 0 < G := by rw [← HG.out]; exact hw.lt
  obtain ⟨LN, HLN⟩ : ∃ n, Hid (B.length = n) := ⟨_, rfl⟩
  have hLN : LN ≤ 20000 := by rw [← HLN.out]; exact hlen
  obtain ⟨n, HN⟩ : ∃ n, Hid ((B.length - 1072) / 28 = n) := ⟨_, rfl⟩
  have hn7 : n ≤ 700 := by rw [← HN.out]; omega
  obtain ⟨l, HL⟩ : ∃ l, Hid (rdP B n = l) := ⟨_, rfl⟩
  have HLL : Hid (l.length = n) := hid (by rw [← HL.out]; exact rdP_len B n)
  obtain ⟨su, HSU0⟩ : ∃ l, Hid (rd20 B (B.length - 40) = l) := ⟨_, rfl⟩
  obtain ⟨Y, HY⟩ : ∃ S : List Value, Hid (row .u8 y = S) := ⟨_, rfl⟩
  obtain ⟨zr, HZ⟩ : ∃ zr : Array Value, Hid (zr = (row .u8 z20).toArray) := ⟨_, rfl⟩
  have hz24 : ∀ w : World, (zeroValue 24).run Tryd.prog w = .ok (.agg zr) w := fun w => by rw [HZ.out]; kernel_rfl
  have hz23 : ∀ w : World, (zeroValue 23).run Tryd.prog w = .ok (.agg zr) w := fun w => by rw [HZ.out]; kernel_rfl
  have HZS : Hid (zr.size = 20) := hid (by rw [HZ.out]; rfl)
  have hiY : (Tryd.prog.info? 24).map (·.size) = some Y.length := by rw [← HY.out, row_len, hy]; exact Tryd.size24'
  obtain ⟨w1, HW1⟩ : ∃ w1, Hid (w.alloc (.cells Y.toArray 24) = w1) := ⟨_, rfl⟩
  have hb1 : Below w.heap.size w w1 := by rw [← HW1.out]; exact (Below.refl _ w).alloc (Nat.le_refl _) _
  have HB1 : Hid (Below G w w1) := hid (by rw [← HG.out]; exact hb1)
  have HS1 : Hid (w1.heap[G]? = some (.cells Y.toArray 24 (0, 0))) := hid (by rw [← HW1.out, ← HG.out]; exact heap_alloc_new w _)
  obtain ⟨g, Hg⟩ : ∃ g, Hid (w1.heap.size = g) := ⟨_, rfl⟩
  have hGg : G < g := by rw [← Hg.out]; exact lt_of_some HS1.out
  have HSB : Hid (∀ W, Below G w W → Sl W a cap B) := fun W hW => hS.below (by rw [HG.out]; exact hW)
  have HSL : Hid (0 < B.length → ∃ b off, a = some ⟨b, off, none⟩ ∧ b < G) := fun h0 => by
    obtain ⟨b, off, e1, e2, _⟩ := hS.at_ h0
    exact ⟨b, off, e1, by rw [← HG.out]; exact e2⟩
  have HBW : Hid (∀ W, Below g w1 W → Below G w W) := fun W hW => HB1.out.trans (hW.mono (Nat.le_of_lt hGg))
  have HYY : Hid (∀ W, Below g w1 W → W.rangeAt G 0 Y) := fun W hW => range_row ((hW.block G hGg).trans HS1.out)
  have HHW : Hid (∀ W, Below g w1 W → Hand W) := fun W hW => hw.below hG0 (HBW.out W hW)
  have C19 : Hid (Calls Tryd.prog 19 #[.slice a LN cap] w1 fun e w' => e = .returned (.slice (some ⟨g, 0, none⟩) LN (LN + 2)) ∧ Below g w1 w' ∧ Room w' g B) := hid (by
    have := roomy_any a cap B w1 (by omega) (HSB.out w1 HB1.out).at_
    rw [HLN.out, Hg.out] at this
    exact this)
  have C20 : Hid (∀ W, Room W g B → Calls Tryd.prog 20 #[.slice (some ⟨g, 0, none⟩) LN (LN + 2)] W (PostRi B W)) := fun W hr => by
    have := readIdx_any (some ⟨g, 0, none⟩) (B.length + 2) B W hz hlen hr.sl
    rw [HLN.out] at this
    exact this
  have C21 : Hid (∀ W, Room W g B → Calls Tryd.prog 21 #[.slice (some ⟨g, 0, none⟩) LN (LN + 2), .agg Y.toArray] W (PostFi B y W)) := fun W hr => by
    have := find_any (some ⟨g, 0, none⟩) (B.length + 2) B y W hz hlen hr.sl hy hyb
    rw [HLN.out, HY.out] at this
    exact this
  have C22 : Hid (∀ W, Below g w1 W → Room W g B → Calls Tryd.prog 22 #[.slice (some ⟨g, 0, none⟩) LN (LN + 2), .slice a LN cap] W fun e w' => e = .returned (.bool true) ∧ W.grownBy w' (some g)) := fun W hW hr => by
    have := still_keep a cap g B W (by omega) hz hr (fun h0 => by
      obtain ⟨b, off, e1, e2, e3⟩ := (HSB.out W (HBW.out W hW)).at_ h0
      obtain ⟨b', off', e1', e2'⟩ := HSL.out h0
      rw [e1] at e1'
      cases e1'
      exact ⟨b, off, e1, by omega, e3⟩)
    rw [HLN.out] at this
    exact this
  have C23 : Hid (∀ W, Below g w1 W → Calls Tryd.prog 23 #[.slice a LN cap] W (PostRd B W)) := fun W hW => by
    have := refRead_any a cap B W hz hlen (HSB.out W (HBW.out W hW))
    rw [HLN.out] at this
    exact this
  have CT : Hid (∀ W k, Below g w1 W → Calls Tryd.prog 8 #[.iface 38 (.int .i64 k)] W fun e w' => e = .returned (.int .i64 k) ∧ Below W.heap.size W w') := fun W k hW => tell_errno k W (HHW.out W hW)
  have HBB : Hid (IsB B) := hz
  have HYL : Hid (y.length = 20 ∧ IsB y) := ⟨hy, hyb⟩
  rw [HLN.out, HY.out]
  clear hb1 hS hz hy hyb hw
  go_enter Tryd.func9, Tryd.ntmps9
  go_wp2_with fail
  rw [HW1.out, HG.out]
  refine C19.out.mono ?_
  rintro ev w2 ⟨rfl, hb2, hr2⟩
  have HB2 : Hid (Below g w1 w2) := hb2
  have HR2 : Hid (Room w2 g B) := hr2
  have hg2 : g < w2.heap.size := hr2.lt
  clear hb2 hr2
  by_cases hgd : 1072 ≤ B.length ∧ Idx B
  · have HS20 : Hid (su.length = 20) := hid (by rw [← HSU0.out]; exact rd20_len B _ (by have := hgd.1; omega))
    obtain ⟨SU, HSU⟩ : ∃ S : List Value, Hid (row .u8 su = S) := ⟨_, rfl⟩
    have HWP : Hid (Wp l) := hid (by rw [← HL.out]; exact rdP_wp B n HBB.out (by have := hgd.1; have := HN.out; omega))
    have HND : Hid ((l.map (·.id)).Nodup) := hid (by
      have := hgd.2.2.1.2
      rw [HN.out, HL.out] at this
      exact this)
    have HGD : Hid (1072 ≤ B.length ∧ Idx B) := hgd
    clear hgd
    have HRL : Hid (SU.length = 20) := hid (by rw [← HSU.out, row_len]; exact HS20.out)
    have I24 : Hid ((Tryd.prog.info? 24).map (·.size) = some SU.toArray.size) := hid (by rw [List.size_toArray, HRL.out]; exact Tryd.size24)
    have I23 : Hid ((Tryd.prog.info? 23).map (·.size) = some SU.toArray.size) := hid (by rw [List.size_toArray, HRL.out]; exact sizeA23)
    have hi24 : (Tryd.prog.info? 24).map (·.size) = some SU.length := by rw [HRL.out]; exact Tryd.size24
    have hi23 : (Tryd.prog.info? 23).map (·.size) = some SU.length := by rw [HRL.out]; exact sizeA23
    have E24 : Hid (zr.size = SU.toArray.size) := hid (by rw [HZS.out, List.size_toArray, HRL.out])
    have O24 : Hid (SU.toArray.all (·.oneCell') = true) := hid (by rw [← HSU.out]; exact all_oneCell_toArray (row_one _ _))
    have hsm : ∀ w : World, (Op.equalIn 10000 24 (.agg SU.toArray) (.agg SU.toArray)).run Tryd.prog w = .ok true w := fun w => by rw [← HSU.out]; exact same25 su HS20.out w
    go_wp2_with fail
    refine (C20.out w2 HR2.out).mono ?_
    rintro ev w3 ⟨hb3, ⟨-, F, rfl, hF, hfr⟩ | ⟨hbad, -⟩⟩
    rotate_left
    · exact absurd HGD.out hbad
    rw [HN.out, HL.out] at hfr
    have HB3 : Hid (Below g w1 w3) := hid (HB2.out.trans (hb3.mono (Nat.le_of_lt hg2)))
    have HR3 : Hid (Room w3 g B) := hid (HR2.out.below hb3)
    have HF3 : Hid (Fr w3 F l) := hfr
    have hgF : g < F := by omega
    rw [HN.out, HSU0.out, HSU.out]
    clear hb3 hfr hF
    have D0 : Hid ((w3.alloc (.cells zr 24)).heap[w3.heap.size]? = some (.cells zr 24 (0, 0))) := heap_alloc_new w3 _
    obtain ⟨w4, HW4⟩ : ∃ w4, Hid ((w3.alloc (.cells zr 24)).setRow w3.heap.size SU.toArray = w4) := ⟨_, rfl⟩
    obtain ⟨K, HK⟩ : ∃ K, Hid (w3.heap.size = K) := ⟨_, rfl⟩
    have hb4 : Below w3.heap.size w3 w4 := by rw [← HW4.out]; exact below_setRow ((Below.refl _ w3).alloc (Nat.le_refl _) _) (Nat.le_refl _) _
    have HK4 : Hid (w4.heap[K]? = some (.cells SU.toArray 24 (0, 0))) := hid (by rw [← HW4.out, ← HK.out]; exact setRow_heap _ _ _ SU.toArray _ _ D0.out)
    have hg3 : g < w3.heap.size := HR3.out.lt
    have hgK : g < K := by rw [← HK.out]; exact hg3
    have HB4 : Hid (Below g w1 w4) := hid (HB3.out.trans (hb4.mono (Nat.le_of_lt hg3)))
    have HR4 : Hid (Room w4 g B) := hid (HR3.out.below hb4)
    have HF4 : Hid (Fr w4 F l) := hid (HF3.out.below hb4)
    have RY : Hid (w4.rangeAt G 0 Y) := hid (HYY.out w4 HB4.out)
    clear hb4 hg3 HB3 HR3 HF3
    go_wp2_with (first
      | (refine wpList_store_row rfl 24 _ _ rfl w3.heap.size SU.toArray rfl rfl 24 zr D0.out I24.out E24.out O24.out ?_; rw [HW4.out, HK.out])
      | refine wpList_load_mid rfl 24 _ rfl G 0 rfl Y _ RY.out Tryd.underlying24 rfl hiY ?_
      | fail)
    refine (C21.out w4 HR4.out).mono ?_
    rintro ev w5 ⟨hb5, hcase⟩
    have hg4 : g < w4.heap.size := HR4.out.lt
    have HB5 : Hid (Below g w1 w5) := hid (HB4.out.trans (hb5.mono (Nat.le_of_lt hg4)))
    have HR5 : Hid (Room w5 g B) := hid (HR4.out.below hb5)
    have HF5 : Hid (Fr w5 F l) := hid (HF4.out.below hb5)
    have HK5 : Hid (w5.heap[K]? = some (.cells SU.toArray 24 (0, 0))) := hid ((hb5.block K (lt_of_some HK4.out)).trans HK4.out)
    clear hb5 hg4
    rw [HN.out, HL.out] at hcase
    obtain ⟨at_, fv, hev, HAF⟩ : ∃ (at_ : Int) (fv : Value), ev = .returned (.tuple #[.int .i64 at_, fv]) ∧ Hid ((∃ p ∈ l, p.id = y ∧ at_ = p.off ∧ fv = .nilIface) ∨ (y ∉ l.map (·.id) ∧ at_ = 0 ∧ fv = .iface 38 (.int .i64 50))) := by
      rcases hcase with ⟨-, ⟨p, hp, h1, h2⟩ | ⟨h1, h2⟩⟩ | ⟨hbad, -⟩
      · exact ⟨p.off, .nilIface, h2, .inl ⟨p, hp, h1, rfl, rfl⟩⟩
      · exact ⟨0, _, h2, .inr ⟨h1, rfl, rfl⟩⟩
      · exact absurd HGD.out hbad
    subst hev
    clear hcase
    go_wp2_with fail
    refine (C22.out w5 HB5.out HR5.out).mono ?_
    rintro ev w6 ⟨rfl, hg6⟩
    have HB6 : Hid (Below g w1 w6) := hid (HB5.out.grown hg6 (Nat.le_of_lt HR5.out.lt) (fun k hk => by cases hk; exact Nat.le_refl _))
    have HF6 : Hid (Fr w6 F l) := hid ((hg6.block F (lt_of_some HF5.out) (fun e => by cases e; omega)).trans HF5.out)
    have HK6 : Hid (w6.heap[K]? = some (.cells SU.toArray 24 (0, 0))) := hid ((hg6.block K (lt_of_some HK5.out) (fun e => by cases e; omega)).trans HK5.out)
    have hg6s : g < w6.heap.size := Nat.lt_of_lt_of_le HR5.out.lt hg6.size
    clear hg6 HB5 HR5 HF5 HK5 HB4 HR4 HF4 HK4
    go_wp2_with fail
    refine (C23.out w6 HB6.out).mono ?_
    rintro ev w7 ⟨hb7, ⟨-, va, vc, rfl, hpv⟩ | ⟨hbad, -⟩⟩
    rotate_left
    · exact absurd HGD.out hbad
    rw [HN.out, HL.out] at hpv
    rw [HN.out, HSU0.out, HSU.out]
    have HB7 : Hid (Below g w1 w7) := hid (HB6.out.trans (hb7.mono (Nat.le_of_lt hg6s)))
    have HF7 : Hid (Fr w7 F l) := hid (HF6.out.below hb7)
    have HK7 : Hid (w7.heap[K]? = some (.cells SU.toArray 24 (0, 0))) := hid ((hb7.block K (lt_of_some HK6.out)).trans HK6.out)
    have HP7 : Hid (Pp w7 va vc l) := hpv
    have hg7 : g < w7.heap.size := Nat.lt_of_lt_of_le hg6s hb7.size
    clear hb7 hpv HB6 HF6 HK6
    have D7 : Hid ((w7.alloc (.cells zr 23)).heap[w7.heap.size]? = some (.cells zr 23 (0, 0))) := heap_alloc_new w7 _
    obtain ⟨w8, HW8⟩ : ∃ w8, Hid ((w7.alloc (.cells zr 23)).setRow w7.heap.size SU.toArray = w8) := ⟨_, rfl⟩
    obtain ⟨J, HJ⟩ : ∃ J, Hid (w7.heap.size = J) := ⟨_, rfl⟩
    have hb8 : Below w7.heap.size w7 w8 := by rw [← HW8.out]; exact below_setRow ((Below.refl _ w7).alloc (Nat.le_refl _) _) (Nat.le_refl _) _
    have HJ8 : Hid (w8.heap[J]? = some (.cells SU.toArray 23 (0, 0))) := hid (by rw [← HW8.out, ← HJ.out]; exact setRow_heap _ _ _ SU.toArray _ _ D7.out)
    have HB8 : Hid (Below g w1 w8) := hid (HB7.out.trans (hb8.mono (Nat.le_of_lt hg7)))
    have HF8 : Hid (Fr w8 F l) := hid (HF7.out.below hb8)
    have HK8 : Hid (w8.heap[K]? = some (.cells SU.toArray 24 (0, 0))) := hid ((hb8.block K (lt_of_some HK7.out)).trans HK7.out)
    have HP8 : Hid (Pp w8 va vc l) := hid (HP7.out.below hb8)
    have hg8 : g < w8.heap.size := Nat.lt_of_lt_of_le hg7 hb8.size
    clear hb8 HB7 HF7 HK7 HP7
    have C24 : Hid (Calls Tryd.prog 24 #[.slice (some ⟨F, 0, none⟩) n n, .slice va n vc] w8 fun e w' => e = .returned (.bool true) ∧ Below w8.heap.size w8 w') := hid (by
      have hpp := fr_pp HF8.out (fun p hp => (HWP.out p hp).1)
      have := samePlaces_any (some ⟨F, 0, none⟩) va l.length vc l (fun p hp => (HWP.out p hp).1) (by rw [HLL.out]; omega) w8 hpp HP8.out
      rw [HLL.out] at this
      exact this)
    go_wp2_with (first
      | (refine wpList_store_row rfl 23 _ _ rfl w7.heap.size SU.toArray rfl rfl 23 zr D7.out I23.out E24.out O24.out ?_; rw [HW8.out, HJ.out])
      | fail)
    refine C24.out.mono ?_
    rintro ev w9 ⟨rfl, hb9⟩
    have HB9 : Hid (Below g w1 w9) := hid (HB8.out.trans (hb9.mono (Nat.le_of_lt hg8)))
    have HP9 : Hid (Pp w9 va vc l) := hid (HP8.out.below hb9)
    have RK : Hid (w9.rangeAt K 0 SU) := hid (range_row ((hb9.block K (lt_of_some HK8.out)).trans HK8.out))
    have RJ : Hid (w9.rangeAt J 0 SU) := hid (range_row ((hb9.block J (lt_of_some HJ8.out)).trans HJ8.out))
    have hg9 : g < w9.heap.size := Nat.lt_of_lt_of_le hg8 hb9.size
    clear hb9 HB8 HF8 HK8 HP8 HJ8 C24
    go_wp2_with (first
      | (refine BigFrame.wpList_want (by rfl) (fun KK hKK => ?_); refine wp_load_mid 24 _ rfl K 0 rfl SU _ RK.out Tryd.underlying24 rfl hi24 ?_; refine hKK _ _ ?_; clear hKK KK)
      | (refine BigFrame.wpList_want (by rfl) (fun KK hKK => ?_); refine wp_load_mid 23 _ rfl J 0 rfl SU _ RJ.out Tryd.underlying23 rfl hi23 ?_; refine hKK _ _ ?_; clear hKK KK)
      | fail)
    refine (tell_nil w9).mono ?_
    rintro ev w10 ⟨rfl, hb10⟩
    have HB10 : Hid (Below g w1 w10) := hid (HB9.out.trans (hb10.mono (Nat.le_of_lt hg9)))
    have HP10 : Hid (Pp w10 va vc l) := hid (HP9.out.below hb10)
    obtain ⟨h, Hh⟩ : ∃ h, Hid (w10.heap.size = h) := ⟨_, rfl⟩
    have hgh : g ≤ h := by rw [← Hh.out]; exact Nat.le_trans (Nat.le_of_lt hg9) hb10.size
    have HBT : Hid (∀ W, Below h w10 W → Below g w1 W) := fun W hW => HB10.out.trans (hW.mono hgh)
    have HPT : Hid (∀ W, Below h w10 W → Pp W va vc l) := fun W hW => HP10.out.below (by rw [Hh.out]; exact hW)
    have hcv : n ≤ vc := by have := HP10.out.capl; rw [HLL.out] at this; exact this
    have HPL : Hid (0 < n → ∃ b off, va = some ⟨b, off, none⟩) := fun h0 => by
      obtain ⟨b, off, e1, _⟩ := HP10.out.at_ (by rw [HLL.out]; exact h0)
      exact ⟨b, off, e1⟩
    clear hb10 HB9 HP9 RK RJ
    go_wp2_with fail
    go_loopg [16] n (fun g2 iv wr => ∃ i : Nat, i ≤ n ∧ g2 = n - i ∧ iv = .int .i64 i ∧ Hid (Below h w10 wr) ∧ Hid (∀ k, k < i → (l.getD k p0).id ≠ y))
    case atStart => exact ⟨0, Nat.zero_le _, rfl, rfl, hid (Below.refl _ _), hid (fun k hk => absurd hk (Nat.not_lt_zero _))⟩
    case round =>
      obtain ⟨i, hi, hg2', rfl, HBr, HNE⟩ := hrel
      by_cases hlt : i < n
      · have hlti : (i : Int) < (n : Int) := by omega
        obtain ⟨b, off, hae⟩ := HPL.out (by omega)
        subst hae
        obtain ⟨x, HX⟩ : ∃ x, Hid (l.getD i p0 = x) := ⟨_, rfl⟩
        have hxm : x ∈ l := by
          rw [← HX.out, List.getD_eq_getElem?_getD, List.getElem?_eq_getElem (by rw [HLL.out]; exact hlt)]
          exact List.getElem_mem _
        have HXM : Hid (x ∈ l) := hxm
        have HX20 : Hid (x.id.length = 20) := (HWP.out x hxm).1
        clear hxm
        have HRG : Hid (∀ W, Below h w10 W → W.rangeAt b (off + i * 22) (plV x)) := fun W hW => by
          obtain ⟨b', off', e1, e2, e3⟩ := (HPT.out W hW).at_ (by rw [HLL.out]; omega)
          cases e1
          rw [← HX.out]
          exact e3 i (by rw [HLL.out]; exact hlt)
        obtain ⟨RX, HRX⟩ : ∃ R : List Value, Hid (row .u8 x.id = R) := ⟨_, rfl⟩
        have hiRX : (Tryd.prog.info? 23).map (·.size) = some RX.length := by rw [← HRX.out, row_len, HX20.out]; exact sizeA23
        obtain ⟨eb, HEB⟩ : ∃ eb : Bool, Hid (decide (x.id = y) = eb) := ⟨_, rfl⟩
        have heq : ∀ w : World, (Op.equalIn 10000 23 (.agg RX.toArray) (.agg Y.toArray)).run Tryd.prog w = .ok eb w := fun w => by
          rw [← HRX.out, ← HY.out, ← HEB.out]
          exact eq23 x.id y HX20.out HYL.out.1 w
        have HBd : Hid (Below h w10 wr.drew) := hid (below_drewH HBr.out 1)
        have HQ0 : Hid (QF b (off + i * 22) RX G Y wr.drew) := hid ⟨by rw [← HRX.out]; exact pl_id (HRG.out _ HBd.out), HYY.out _ (HBT.out _ HBd.out)⟩
        go_wp2_with fail
        refine wp_region_held_drew (S := QF b (off + i * 22) RX G Y) (by kernel_rfl) (by exact HQ0.out) (fun hHeld => ?_)
        generalize wr.drew = u0 at hHeld HQ0 HBd ⊢
        clear HQ0
        refine takeL (i := 0) (v := ?_) rfl (by kernel_rfl) (by kernel_rfl) (by kernel_rfl) (fun _ _ _ h => h) (Or.inl ⟨by rfl, ?_⟩) hHeld ?_
        rotate_left
        · rintro w' ⟨r, y1⟩; go_simp; rfl
        try simp only [Act.put, List.setIfInBounds_toArray, List.set_cons_zero, List.set_cons_succ]
        refine takeL (i := 1) (v := ?_) rfl (by kernel_rfl) (by kernel_rfl) (by kernel_rfl) (fun _ _ _ h => h) (Or.inl ⟨by rfl, ?_⟩) hHeld ?_
        rotate_left
        · rintro w' ⟨r, y1⟩; go_simp; rfl
        try simp only [Act.put, List.setIfInBounds_toArray, List.set_cons_zero, List.set_cons_succ]
        refine takeL (i := 2) (v := ?_) rfl (by kernel_rfl) (by kernel_rfl) (by kernel_rfl) (fun _ _ _ h => h) (Or.inl ⟨by rfl, ?_⟩) hHeld ?_
        rotate_left
        · rintro w' ⟨r, y1⟩; go_simp; rfl
        try simp only [Act.put, List.setIfInBounds_toArray, List.set_cons_zero, List.set_cons_succ]
        refine takeL (i := 3) (v := ?_) rfl (by kernel_rfl) (by kernel_rfl) (by kernel_rfl) (fun _ _ _ h => h) (Or.inl ⟨by rfl, ?_⟩) hHeld ?_
        rotate_left
        · rintro w' ⟨r, y1⟩; go_simp; rfl
        try simp only [Act.put, List.setIfInBounds_toArray, List.set_cons_zero, List.set_cons_succ]
        refine takeL (i := 4) (v := .agg RX.toArray) rfl (by kernel_rfl) (by kernel_rfl) (by kernel_rfl) (fun _ _ _ h => h) (yieldsIf_load_mid (by kernel_rfl) 23 _ rfl b (off + i * 22) (by rfl) RX _ (fun w' h => h.r) Tryd.underlying23 rfl hiRX) hHeld ?_
        try simp only [Act.put, List.setIfInBounds_toArray, List.set_cons_zero, List.set_cons_succ]
        refine takeL (i := 5) (v := .agg Y.toArray) rfl (by kernel_rfl) (by kernel_rfl) (by kernel_rfl) (fun _ _ _ h => h) (yieldsIf_load_mid (by kernel_rfl) 24 _ rfl G (0) (by rfl) Y _ (fun w' h => h.y) Tryd.underlying24 rfl hiY) hHeld ?_
        try simp only [Act.put, List.setIfInBounds_toArray, List.set_cons_zero, List.set_cons_succ]
        refine takeL (i := 6) (v := .bool eb) rfl (by kernel_rfl) (by kernel_rfl) (by kernel_rfl) (fun _ _ _ h => h) (Or.inl ⟨by rfl, ?_⟩) hHeld ?_
        · rintro w' ⟨r, y1⟩; go_simp; try rfl
        try simp only [Act.put, List.setIfInBounds_toArray, List.set_cons_zero, List.set_cons_succ]
        refine wpAnyH_done (by kernel_rfl) ?_ _
        clear hHeld heq
        cases eb with
        | true =>
          have HXY : Hid (x.id = y) := hid (of_decide_eq_true HEB.out)
          have HAX : Hid (at_ = x.off ∧ fv = .nilIface) := hid (by
            rcases HAF.out with ⟨p, hp, h1, h2, h3⟩ | ⟨h1, _⟩
            · have := one_id HND.out hp HXM.out (by rw [h1, HXY.out])
              rw [← this]
              exact ⟨h2, h3⟩
            · exact absurd (List.mem_map.2 ⟨x, HXM.out, HXY.out⟩) h1)
          have hA2 := HAX.out.2
          subst hA2
          go_wp2_with fail
          refine (tell_nil u0).mono ?_
          rintro ev w11 ⟨rfl, hb11⟩
          have hh0 : h ≤ u0.heap.size := by have := HBd.out.size; rw [Hh.out] at this; exact this
          have HB11 : Hid (Below h w10 w11) := hid (HBd.out.trans (hb11.mono hh0))
          have c20 : w11.cell? ⟨b, off + i * 22 + 20, none⟩ = some (.int .i64 at_) := by rw [HAX.out.1]; exact pl_off (HRG.out _ HB11.out) HX20.out
          clear hb11
          go_wp2
          go_ret
          exact ⟨rfl, by rw [HG.out]; exact HBW.out _ (HBT.out _ HB11.out)⟩
        | false =>
          have HNK : Hid (∀ k, k < i + 1 → (l.getD k p0).id ≠ y) := fun k hk => by
            by_cases hki : k < i
            · exact HNE.out k hki
            · have : k = i := by omega
              subst this
              rw [HX.out]
              exact of_decide_eq_false HEB.out
          go_wp2
          go_roundg (n - (i + 1))
          case measure => omega
          case rel => exact ⟨i + 1, by omega, rfl, by go_num, HBd, HNK⟩
      · have hlti : ¬ (i : Int) < (n : Int) := by omega
        have HAX : Hid (at_ = 0 ∧ fv = .iface 38 (.int .i64 50)) := hid (by
          rcases HAF.out with ⟨p, hp, h1, h2, h3⟩ | ⟨h1, h2, h3⟩
          · exfalso
            obtain ⟨k, hk, rfl⟩ := List.getElem_of_mem hp
            refine HNE.out k (by rw [HLL.out] at hk; omega) ?_
            rw [List.getD_eq_getElem?_getD, List.getElem?_eq_getElem hk]
            exact h1
          · exact ⟨h2, h3⟩)
        obtain ⟨hA1, hA2⟩ := HAX.out
        subst hA2
        subst hA1
        clear HAX HAF
        go_wp2_with fail
        refine (CT.out wr 50 (HBT.out _ HBr.out)).mono ?_
        rintro ev w11 ⟨rfl, hb11⟩
        have hh0 : h ≤ wr.heap.size := by have := HBr.out.size; rw [Hh.out] at this; exact this
        have HB11 : Hid (Below h w10 w11) := hid (HBr.out.trans (hb11.mono hh0))
        clear hb11
        go_wp2
        go_ret
        exact ⟨rfl, by rw [HG.out]; exact HBW.out _ (HBT.out _ HB11.out)⟩
  · have HBD : Hid (¬ (1072 ≤ B.length ∧ Idx B)) := hgd
    clear hgd
    have I24 : Hid ((Tryd.prog.info? 24).map (·.size) = some zr.size) := hid (by rw [HZS.out]; exact Tryd.size24)
    have I23 : Hid ((Tryd.prog.info? 23).map (·.size) = some zr.size) := hid (by rw [HZS.out]; exact sizeA23)
    have O24 : Hid (zr.all (·.oneCell') = true) := hid (by rw [HZ.out]; exact all_oneCell_toArray (row_one _ _))
    obtain ⟨ZR, HZR⟩ : ∃ Z : List Value, Hid (row .u8 z20 = Z) := ⟨_, rfl⟩
    have HZA : Hid (zr = ZR.toArray) := hid (by rw [HZ.out, HZR.out])
    have hi24 : (Tryd.prog.info? 24).map (·.size) = some ZR.length := by rw [← HZR.out]; exact Tryd.size24
    have hsz : ∀ w : World, (Op.equalIn 10000 24 (.agg ZR.toArray) (.agg #[.int .u8 0, .int .u8 0, .int .u8 0, .int .u8 0, .int .u8 0, .int .u8 0, .int .u8 0, .int .u8 0, .int .u8 0, .int .u8 0, .int .u8 0, .int .u8 0, .int .u8 0, .int .u8 0, .int .u8 0, .int .u8 0, .int .u8 0, .int .u8 0, .int .u8 0, .int .u8 0])).run Tryd.prog w = .ok true w := fun w => by rw [← HZR.out]; exact same25 z20 rfl w
    have hsz2 : ∀ w : World, (Op.equalIn 10000 24 (.agg ZR.toArray) (.agg ZR.toArray)).run Tryd.prog w = .ok true w := fun w => by rw [← HZR.out]; exact same25 z20 rfl w
    have hsz3 : ∀ w : World, (Op.equalIn 10000 24 (.agg ZR.toArray) (.agg zr)).run Tryd.prog w = .ok true w := fun w => by rw [HZA.out]; exact hsz2 w
    go_wp2_with fail
    refine (C20.out w2 HR2.out).mono ?_
    rintro ev w3 ⟨hb3, ⟨hgood, _⟩ | ⟨-, rfl⟩⟩
    · exact absurd hgood HBD.out
    have HB3 : Hid (Below g w1 w3) := hid (HB2.out.trans (hb3.mono (Nat.le_of_lt hg2)))
    have HR3 : Hid (Room w3 g B) := hid (HR2.out.below hb3)
    rw [← HZ.out]
    clear hb3
    have D0 : Hid ((w3.alloc (.cells zr 24)).heap[w3.heap.size]? = some (.cells zr 24 (0, 0))) := heap_alloc_new w3 _
    obtain ⟨w4, HW4⟩ : ∃ w4, Hid ((w3.alloc (.cells zr 24)).setRow w3.heap.size zr = w4) := ⟨_, rfl⟩
    obtain ⟨K, HK⟩ : ∃ K, Hid (w3.heap.size = K) := ⟨_, rfl⟩
    have hb4 : Below w3.heap.size w3 w4 := by rw [← HW4.out]; exact below_setRow ((Below.refl _ w3).alloc (Nat.le_refl _) _) (Nat.le_refl _) _
    have HK4 : Hid (w4.heap[K]? = some (.cells zr 24 (0, 0))) := hid (by rw [← HW4.out, ← HK.out]; exact setRow_heap _ _ _ zr _ _ D0.out)
    have hg3 : g < w3.heap.size := HR3.out.lt
    have hgK : g < K := by rw [← HK.out]; exact hg3
    have HB4 : Hid (Below g w1 w4) := hid (HB3.out.trans (hb4.mono (Nat.le_of_lt hg3)))
    have HR4 : Hid (Room w4 g B) := hid (HR3.out.below hb4)
    have RY : Hid (w4.rangeAt G 0 Y) := hid (HYY.out w4 HB4.out)
    clear hb4 hg3 HB3 HR3
    go_wp2_with (first
      | (refine wpList_store_row rfl 24 _ _ rfl w3.heap.size zr rfl rfl 24 zr D0.out I24.out rfl O24.out ?_; rw [HW4.out, HK.out])
      | refine wpList_load_mid rfl 24 _ rfl G 0 rfl Y _ RY.out Tryd.underlying24 rfl hiY ?_
      | fail)
    refine (C21.out w4 HR4.out).mono ?_
    rintro ev w5 ⟨hb5, ⟨hgood, _⟩ | ⟨-, rfl⟩⟩
    · exact absurd hgood HBD.out
    have hg4 : g < w4.heap.size := HR4.out.lt
    have HB5 : Hid (Below g w1 w5) := hid (HB4.out.trans (hb5.mono (Nat.le_of_lt hg4)))
    have HR5 : Hid (Room w5 g B) := hid (HR4.out.below hb5)
    have HK5 : Hid (w5.heap[K]? = some (.cells zr 24 (0, 0))) := hid ((hb5.block K (lt_of_some HK4.out)).trans HK4.out)
    clear hb5 hg4
    go_wp2_with fail
    refine (C22.out w5 HB5.out HR5.out).mono ?_
    rintro ev w6 ⟨rfl, hg6⟩
    have HB6 : Hid (Below g w1 w6) := hid (HB5.out.grown hg6 (Nat.le_of_lt HR5.out.lt) (fun k hk => by cases hk; exact Nat.le_refl _))
    have HK6 : Hid (w6.heap[K]? = some (.cells zr 24 (0, 0))) := hid ((hg6.block K (lt_of_some HK5.out) (fun e => by cases e; omega)).trans HK5.out)
    have hg6s : g < w6.heap.size := Nat.lt_of_lt_of_le HR5.out.lt hg6.size
    clear hg6 HB5 HR5 HK5 HB4 HR4 HK4
    go_wp2_with fail
    refine (C23.out w6 HB6.out).mono ?_
    rintro ev w7 ⟨hb7, ⟨hgood, _⟩ | ⟨-, rfl⟩⟩
    · exact absurd hgood HBD.out
    rw [← HZ.out]
    have HB7 : Hid (Below g w1 w7) := hid (HB6.out.trans (hb7.mono (Nat.le_of_lt hg6s)))
    have HK7 : Hid (w7.heap[K]? = some (.cells zr 24 (0, 0))) := hid ((hb7.block K (lt_of_some HK6.out)).trans HK6.out)
    have hg7 : g < w7.heap.size := Nat.lt_of_lt_of_le hg6s hb7.size
    clear hb7 HB6 HK6
    have D7 : Hid ((w7.alloc (.cells zr 23)).heap[w7.heap.size]? = some (.cells zr 23 (0, 0))) := heap_alloc_new w7 _
    obtain ⟨w8, HW8⟩ : ∃ w8, Hid ((w7.alloc (.cells zr 23)).setRow w7.heap.size zr = w8) := ⟨_, rfl⟩
    obtain ⟨J, HJ⟩ : ∃ J, Hid (w7.heap.size = J) := ⟨_, rfl⟩
    have hb8 : Below w7.heap.size w7 w8 := by rw [← HW8.out]; exact below_setRow ((Below.refl _ w7).alloc (Nat.le_refl _) _) (Nat.le_refl _) _
    have HB8 : Hid (Below g w1 w8) := hid (HB7.out.trans (hb8.mono (Nat.le_of_lt hg7)))
    have RK : Hid (w8.rangeAt K 0 ZR) := hid (range_row (by rw [← HZA.out]; exact (hb8.block K (lt_of_some HK7.out)).trans HK7.out))
    have hg8 : g < w8.heap.size := Nat.lt_of_lt_of_le hg7 hb8.size
    clear hb8 HB7 HK7
    go_wp2_with (first
      | (refine wpList_store_row rfl 23 _ _ rfl w7.heap.size zr rfl rfl 23 zr D7.out I23.out rfl O24.out ?_; rw [HW8.out, HJ.out])
      | (refine BigFrame.wpList_want (by rfl) (fun KK hKK => ?_); refine wp_load_mid 24 _ rfl K 0 rfl ZR _ RK.out Tryd.underlying24 rfl hi24 ?_; refine hKK _ _ ?_; clear hKK KK)
      | fail)
    refine (CT.out w8 42 HB8.out).mono ?_
    rintro ev w9 ⟨rfl, hb9⟩
    have HB9 : Hid (Below g w1 w9) := hid (HB8.out.trans (hb9.mono (Nat.le_of_lt hg8)))
    have hg9 : g < w9.heap.size := Nat.lt_of_lt_of_le hg8 hb9.size
    clear hb9
    go_wp2_with fail
    refine (CT.out w9 42 HB9.out).mono ?_
    rintro ev w10 ⟨rfl, hb10⟩
    have HB10 : Hid (Below g w1 w10) := hid (HB9.out.trans (hb10.mono (Nat.le_of_lt hg9)))
    clear hb10
    go_wp2
    go_ret
    exact ⟨rfl, by rw [HG.out]; exact HBW.out _ HB10.out⟩
end Go.Proofs.YtdfihfmmfmoabaaDoor
