/- Package object: 'ID'. -/
import Derived.Test.YtbpdielmdhhdfaaGreatDoorEncA
import Derived.Test.YtbpdielmdhhdfaaGreatDoorSumB
namespace Go.Proofs.YtbpdielmdhhdfaaGreatDoor
open Go.RowKit
set_option linter.unusedVariables false
set_option linter.unusedSimpArgs false
theorem results_mid2 {P : Program} {fn : Func} {p q : Tmp} {ty : TypeId} (h : fn.results = #[.cell p ty, .tmp q]) (tmps : Array Value) (w : World) (g : Nat) (cs : List Value) (d : TypeDesc)
    (hp : tmps.getD p undef = .pointer (some ⟨g, 0, none⟩)) (hc : w.rangeAt g 0 cs) (hu : P.underlying ty = some d) (hd : d.isRow = true) (hi : (P.info? ty).map (·.size) = some cs.length) :
    (results fn tmps).run P w = .ok (.tuple #[.agg cs.toArray, tmps.getD q undef]) w := by
  have hp' : tmps[p]?.getD undef = .pointer (some ⟨g, 0, none⟩) := by simpa using hp
  simp [results, h, hp', asAddr, run_loadVar_mid w g 0 ty cs d hc hu hd hi]
theorem Tryz.results10 : Tryz.f10.results = #[.cell 2 32, .tmp 3] := by kernel_rfl
/-- 3.1: an object's id; nought, where it has none. -/
def idZ (k : Int) (zs : List Int) : List Int := if errE k zs.length = 0 then sha (encZ k zs) else z20
theorem idZ_len (k : Int) (zs : List Int) : (idZ k zs).length = 20 := by
  unfold idZ
  split
  · exact sha_len _
  · rfl
/-- An error's number as a value: none: nil. -/
def errV (n : Int) : Value := if n = 0 then .nilIface else .iface 35 (.int .i64 n)
theorem encZ_len (k : Int) (zs : List Int) (hl : zs.length ≤ 300000) : (encZ k zs).length ≤ zs.length + 14 := by
  have := h0_len k zs.length (by omega)
  unfold encZ hd
  rw [List.length_append, nums_len, List.length_append, List.length_singleton]
  omega
theorem encZ_isB (k : Int) (zs : List Int) (h : IsB zs) : IsB (encZ k zs) := by
  intro x hx
  rcases List.mem_append.1 hx with hx | hx
  · exact nums_isB _ x hx
  · exact h x hx
set_option maxRecDepth 20000 in
set_option maxHeartbeats 2000000 in
theorem id_any (k : Int) (a : Option Addr) (cap : Nat) (zs : List Int) (w : World) (ht : Tab w) (hl : zs.length ≤ 300000) (hz : IsB zs) (hS : Sl w a cap zs) :
    Calls Tryz.prog 10 #[.agg #[.int .i64 k, .slice a zs.length cap]] w fun e w' => e = .returned (.tuple #[.agg (row .u8 (idZ k zs)).toArray, errV (errE k zs.length)]) ∧ Below w.heap.size w w' := by
  obtain ⟨zr, HZ⟩ : ∃ zr : Array Value, Hid (zr = (row .u8 z20).toArray) := ⟨_, rfl⟩
  have hz25 := zero25
  rw [← HZ.out] at hz25
  obtain ⟨n, HN⟩ : ∃ n, Hid (zs.length = n) := ⟨_, rfl⟩
  obtain ⟨fr, HE⟩ : ∃ fr, Hid (fr = idZ k zs) := ⟨_, rfl⟩
  have hfl : fr.length = 20 := by rw [HE.out]; exact idZ_len _ _
  have hi25 : (Tryz.prog.info? 32).map (·.size) = some (row .u8 fr).length := by rw [row_len, hfl]; exact Tryz.size32
  have T2 : Hid ((Tryz.prog.info? 32).map (·.size) = some (row .u8 fr).toArray.size) := hid (by rw [row_size, hfl]; exact Tryz.size32)
  have T3 : Hid ((row .u8 fr).toArray.all (·.oneCell') = true) := all_oneCell_toArray (row_one _ _)
  obtain ⟨G, HG⟩ : ∃ G, Hid (w.heap.size = G) := ⟨_, rfl⟩
  obtain ⟨w0, HW0⟩ : ∃ w0, Hid ((w.alloc (.cells #[.int .i64 k, .slice a n cap] 25)).alloc (.cells zr 32) = w0) := ⟨_, rfl⟩
  have hs0 : w0.heap.size = G + 2 := by rw [← HW0.out, ← HG.out]; simp
  have hc0 : w0.cell? ⟨G, 0, none⟩ = some (.int .i64 k) := by rw [← HW0.out, ← HG.out]; simp
  have hc1 : w0.cell? ⟨G, 1, none⟩ = some (.slice a n cap) := by rw [← HW0.out, ← HG.out]; simp
  have HR0 : Hid (w0.heap[G + 1]? = some (.cells (row .u8 z20).toArray 32 (0, 0))) := hid (by
    have := heap_alloc_new (w.alloc (.cells #[.int .i64 k, .slice a n cap] 25)) (.cells zr 32)
    rw [HW0.out, HZ.out] at this
    rw [← HG.out]; simpa using this)
  have HB0 : Hid (Below G w w0) := hid (by rw [← HW0.out, ← HG.out]; exact ((Below.refl _ w).alloc (Nat.le_refl _) _).alloc (by simp) _)
  have HEN : Hid (Calls Tryz.prog 9 #[.agg #[.int .i64 k, .slice a n cap]] w0 (PostE k zs w0)) := by
    rw [← HN.out]
    exact encode_any k a cap zs w0 (ht.below (by rw [HG.out]; exact HB0.out)) hl (hS.below (by rw [HG.out]; exact HB0.out))
  replace hs0 := hid hs0
  rw [HN.out]
  go_enter Tryz.func10, Tryz.ntmps10
  go_wp2_with fail
  rw [HG.out, HW0.out]
  clear ht hS
  have hl' : Hid (zs.length ≤ 300000) := hl
  clear hl
  refine HEN.out.mono ?_
  rintro ev w1 ⟨hb1, ⟨he, rfl⟩ | ⟨he, g, c1, rfl, h1, h2, h3, h4⟩⟩
  · have hb1s := hb1.size
    rw [hs0.out] at hb1 hb1s
    have HR1 : Hid (w1.heap[G + 1]? = some (.cells (row .u8 z20).toArray 32 (0, 0))) := (hb1.block _ (by omega)).trans HR0.out
    have HB1 : Hid (Below G w w1) := HB0.out.trans (hb1.mono (by omega))
    obtain ⟨er, HER⟩ : ∃ er, Hid (er = errE k zs.length) := ⟨_, rfl⟩
    have HV : Hid (errV (errE k n) = .iface 35 (.int .i64 er)) := hid (by rw [← HN.out, HER.out]; unfold errV; rw [if_neg he])
    rw [← HER.out]
    have hfr : fr = z20 := by rw [HE.out]; unfold idZ; rw [if_neg he]
    have T1 : Hid (w1.there (G + 1) 0 (row .u8 fr).toArray.size) := hid (by rw [row_size, hfl]; exact there_row HR1.out rfl)
    have T4 : Hid (w1.there (G + 1) 0 (row .u8 fr).length) := hid (by rw [row_len, hfl]; exact there_row HR1.out rfl)
    obtain rfl : zr = (row .u8 fr).toArray := by rw [HZ.out, hfr]
    clear hb1 hfr he hc0 hc1
    go_wp2_with (refine wpList_store_mid rfl 32 _ _ rfl (G + 1) 0 (row .u8 fr).toArray rfl rfl T1.out T2.out T3.out ?_)
    exact bodyPost_ret (v := .tuple #[.agg (row .u8 fr).toArray, .iface 35 (.int .i64 er)]) (results_mid2 Tryz.results10 _ _ (G + 1) _ _ rfl (World.rangeAt_setCells_same w1 (G + 1) 0 _ T4.out) Tryz.underlying32 rfl hi25) rfl ⟨by rw [HV.out, HE.out], by rw [HG.out]; exact below_setCells (by omega) _ _ _ _ HB1.out⟩
  · have hb1s := hb1.size
    rw [hs0.out] at hb1 hb1s h1
    have HR1 : Hid (w1.heap[G + 1]? = some (.cells (row .u8 z20).toArray 32 (0, 0))) := (hb1.block _ (by omega)).trans HR0.out
    have HB1 : Hid (Below G w w1) := HB0.out.trans (hb1.mono (by omega))
    have HV : Hid (errV (errE k n) = .nilIface) := hid (by rw [← HN.out]; unfold errV; rw [if_pos he])
    have hfr : Hid (fr = sha (encZ k zs)) := hid (by rw [HE.out]; unfold idZ; rw [if_pos he])
    have HSU : Hid (Calls Tryz.prog 35 #[.slice (some ⟨g, 0, none⟩) (encZ k zs).length c1] w1 fun e w' => e = .returned (.agg (row .u8 (sha (encZ k zs))).toArray) ∧ Below w1.heap.size w1 w') :=
      sum6 (some ⟨g, 0, none⟩) c1 (encZ k zs) w1 (by
        have := encZ_len k zs hl'.out
        have := (fits_ok k _ he).2
        omega) (encZ_isB k zs hz) (fun _ => ⟨g, 0, rfl, h2, h3, h4⟩)
    obtain ⟨L, HL⟩ : ∃ L, Hid (L = (encZ k zs).length) := ⟨_, rfl⟩
    rw [← HL.out, ← hfr.out] at HSU
    rw [← HL.out]
    clear hb1 he hc0 hc1 h3 h4
    go_wp2_with fail
    refine HSU.out.mono ?_
    rintro ev w2 ⟨rfl, hb2⟩
    have HR2 : Hid (w2.heap[G + 1]? = some (.cells (row .u8 z20).toArray 32 (0, 0))) := (hb2.block _ (by omega)).trans HR1.out
    have HB2 : Hid (Below G w w2) := HB1.out.trans (hb2.mono (by omega))
    have T1 : Hid (w2.there (G + 1) 0 (row .u8 fr).toArray.size) := hid (by rw [row_size, hfl]; exact there_row HR2.out rfl)
    have T4 : Hid (w2.there (G + 1) 0 (row .u8 fr).length) := hid (by rw [row_len, hfl]; exact there_row HR2.out rfl)
    clear hb2
    go_wp2_with (refine wpList_store_mid rfl 32 _ _ rfl (G + 1) 0 (row .u8 fr).toArray rfl rfl T1.out T2.out T3.out ?_)
    exact bodyPost_ret (v := .tuple #[.agg (row .u8 fr).toArray, .nilIface]) (results_mid2 Tryz.results10 _ _ (G + 1) _ _ rfl (World.rangeAt_setCells_same w2 (G + 1) 0 _ T4.out) Tryz.underlying32 rfl hi25) rfl ⟨by rw [HV.out, HE.out], by rw [HG.out]; exact below_setCells (by omega) _ _ _ _ HB2.out⟩
end Go.Proofs.YtbpdielmdhhdfaaGreatDoor
