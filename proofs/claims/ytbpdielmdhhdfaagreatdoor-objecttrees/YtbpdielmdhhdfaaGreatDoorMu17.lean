import Derived.Test.YtbpdielmdhhdfaaGreatDoorMu07
import Derived.Test.YtbpdielmdhhdfaaGreatDoorMu14
import Derived.Test.YtbpdielmdhhdfaaGreatDoorMu16
import Derived.Maps.OwnSet
import Derived.Maps.OwnOps
import Derived.DeepKeys4
/- Package object: 'ID'. -/
namespace Go.Proofs.YtbpdielmdhhdfaaGreatDoor
open Go.RowKit
set_option linter.unusedVariables false
set_option linter.unusedSimpArgs false
theorem results_mid2 {P : Program} {fn : Func} {p q : Tmp} {ty : TypeId} (h : fn.results = #[.cell p ty, .tmp q]) (tmps : Array Value) (w : World) (g : Nat) (cs : List Value) (d : TypeDesc)
    (hp : tmps.getD p undef = .pointer (some ⟨g, 0, none⟩)) (hc : w.rangeAt g 0 cs) (hu : P.underlying ty = some d) (hd : d.isRow = true) (hi : (P.info? ty).map (·.size) = some cs.length) :
    (results fn tmps).run P w = .ok (.tuple #[.agg cs.toArray, tmps.getD q undef]) w := by
  have hp' : tmps[p]?.getD undef = .pointer (some ⟨g, 0, none⟩) := by simpa using hp
  simp [results, h, hp', asAddr, run_loadVar_mid w g 0 ty cs d hc hu hd hi]
theorem Tryz.results10 : Tryz.f10.results = #[.cell 2 32, .tmp 3] := by kernel_rfl
/-- 3.1: an object's id; nought, where it has none. -/
def idZ (k : Int) (zs : List Int) : List Int := if errE k zs.length = 0 then sha (encZ k zs) else z20
theorem idZ_len (k : Int) (zs : List Int) : (idZ k zs).length = 20 := by
  unfold idZ
  split
  · exact sha_len _
  · rfl
/-- An error's number as a value: none: nil. -/
def errV (n : Int) : Value := if n = 0 then .nilIface else .iface 35 (.int .i64 n)
theorem encZ_len (k : Int) (zs : List Int) (hl : zs.length ≤ 300000) : (encZ k zs).length ≤ zs.length + 14 := by
  have := h0_len k zs.length (by omega)
  unfold encZ hd
  rw [List.length_append, nums_len, List.length_append, List.length_singleton]
  omega
theorem encZ_isB (k : Int) (zs : List Int) (h : IsB zs) : IsB (encZ k zs) := by
  intro x hx
  rcases List.mem_append.1 hx with hx | hx
  · exact nums_isB _ x hx
  · exact h x hx
set_option maxRecDepth 20000 in
set_option maxHeartbeats 2000000 in
theorem id_any (k : Int) (a : Option Addr) (cap : Nat) (zs : List Int) (w : World) (ht : Tab w) (hl : zs.length ≤ 300000) (hz : IsB zs) (hS : Sl w a cap zs) :
    Calls Tryz.prog 10 #[.agg #[.int .i64 k, .slice a zs.length cap]] w fun e w' => e = .returned (.tuple #[.agg (row .u8 (idZ k zs)).toArray, errV (errE k zs.length)]) ∧ Below w.heap.size w w' := by
  obtain ⟨zr, HZ⟩ : ∃ zr : Array Value, Hid (zr = (row .u8 z20).toArray) := ⟨_, rfl⟩
  have hz25 := zero25
  rw [← HZ.out] at hz25
  obtain ⟨n, HN⟩ : ∃ n, Hid (zs.length = n) := ⟨_, rfl⟩
  obtain ⟨fr, HE⟩ : ∃ fr, Hid (fr = idZ k zs) := ⟨_, rfl⟩
  have hfl : fr.length = 20 := by rw [HE.out]; exact idZ_len _ _
  have hi25 : (Tryz.prog.info? 32).map (·.size) = some (row .u8 fr).length := by rw [row_len, hfl]; exact Tryz.size32
  have T2 : Hid ((Tryz.prog.info? 32).map (·.size) = some (row .u8 fr).toArray.size) := hid (by rw [row_size, hfl]; exact Tryz.size32)
  have T3 : Hid ((row .u8 fr).toArray.all (·.oneCell') = true) := all_oneCell_toArray (row_one _ _)
  obtain ⟨G, HG⟩ : ∃ G, Hid (w.heap.size = G) := ⟨_, rfl⟩
  obtain ⟨w0, HW0⟩ : ∃ w0, Hid ((w.alloc (.cells #[.int .i64 k, .slice a n cap] 25)).alloc (.cells zr 32) = w0) := ⟨_, rfl⟩
  have hs0 : w0.heap.size = G + 2 := by rw [← HW0.out, ← HG.out]; simp
  have hc0 : w0.cell? ⟨G, 0, none⟩ = some (.int .i64 k) := by rw [← HW0.out, ← HG.out]; simp
  have hc1 : w0.cell? ⟨G, 1, none⟩ = some (.slice a n cap) := by rw [← HW0.out, ← HG.out]; simp
  have HR0 : Hid (w0.heap[G + 1]? = some (.cells (row .u8 z20).toArray 32 (0, 0))) := hid (by
    have := heap_alloc_new (w.alloc (.cells #[.int .i64 k, .slice a n cap] 25)) (.cells zr 32)
    rw [HW0.out, HZ.out] at this
    rw [← HG.out]; simpa using this)
  have HB0 : Hid (Below G w w0) := hid (by rw [← HW0.out, ← HG.out]; exact ((Below.refl _ w).alloc (Nat.le_refl _) _).alloc (by simp) _)
  have HEN : Hid (Calls Tryz.prog 9 #[.agg #[.int .i64 k, .slice a n cap]] w0 (PostE k zs w0)) := by
    rw [← HN.out]
    exact encode_any k a cap zs w0 (ht.below (by rw [HG.out]; exact HB0.out)) hl (hS.below (by rw [HG.out]; exact HB0.out))
  replace hs0 := hid hs0
  rw [HN.out]
  go_enter Tryz.func10, Tryz.ntmps10
  go_wp2_with fail
  rw [HG.out, HW0.out]
  clear ht hS
  have hl' : Hid (zs.length ≤ 300000) := hl
  clear hl
  refine HEN.out.mono ?_
  rintro ev w1 ⟨hb1, ⟨he, rfl⟩ | ⟨he, g, c1, rfl, h1, h2, h3, h4⟩⟩
  · have hb1s := hb1.size
    rw [hs0.out] at hb1 hb1s
    have HR1 : Hid (w1.heap[G + 1]? = some (.cells (row .u8 z20).toArray 32 (0, 0))) := (hb1.block _ (by omega)).trans HR0.out
    have HB1 : Hid (Below G w w1) := HB0.out.trans (hb1.mono (by omega))
    obtain ⟨er, HER⟩ : ∃ er, Hid (er = errE k zs.length) := ⟨_, rfl⟩
    have HV : Hid (errV (errE k n) = .iface 35 (.int .i64 er)) := hid (by rw [← HN.out, HER.out]; unfold errV; rw [if_neg he])
    rw [← HER.out]
    have hfr : fr = z20 := by rw [HE.out]; unfold idZ; rw [if_neg he]
    have T1 : Hid (w1.there (G + 1) 0 (row .u8 fr).toArray.size) := hid (by rw [row_size, hfl]; exact there_row HR1.out rfl)
    have T4 : Hid (w1.there (G + 1) 0 (row .u8 fr).length) := hid (by rw [row_len, hfl]; exact there_row HR1.out rfl)
    obtain rfl : zr = (row .u8 fr).toArray := by rw [HZ.out, hfr]
    clear hb1 hfr he hc0 hc1
    go_wp2_with (refine wpList_store_mid rfl 32 _ _ rfl (G + 1) 0 (row .u8 fr).toArray rfl rfl T1.out T2.out T3.out ?_)
    exact bodyPost_ret (v := .tuple #[.agg (row .u8 fr).toArray, .iface 35 (.int .i64 er)]) (results_mid2 Tryz.results10 _ _ (G + 1) _ _ rfl (World.rangeAt_setCells_same w1 (G + 1) 0 _ T4.out) Tryz.underlying32 rfl hi25) rfl ⟨by rw [HV.out, HE.out], by rw [HG.out]; exact below_setCells (by omega) _ _ _ _ HB1.out⟩
  · have hb1s := hb1.size
    rw [hs0.out] at hb1 hb1s h1
    have HR1 : Hid (w1.heap[G + 1]? = some (.cells (row .u8 z20).toArray 32 (0, 0))) := (hb1.block _ (by omega)).trans HR0.out
    have HB1 : Hid (Below G w w1) := HB0.out.trans (hb1.mono (by omega))
    have HV : Hid (errV (errE k n) = .nilIface) := hid (by rw [← HN.out]; unfold errV; rw [if_pos he])
    have hfr : Hid (fr = sha (encZ k zs)) := hid (by rw [HE.out]; unfold idZ; rw [if_pos he])
    have HSU : Hid (Calls Tryz.prog 35 #[.slice (some ⟨g, 0, none⟩) (encZ k zs).length c1] w1 fun e w' => e = .returned (.agg (row .u8 (sha (encZ k zs))).toArray) ∧ Below w1.heap.size w1 w') :=
      sum6 (some ⟨g, 0, none⟩) c1 (encZ k zs) w1 (by
        have := encZ_len k zs hl'.out
        have := (fits_ok k _ he).2
        omega) (encZ_isB k zs hz) (fun _ => ⟨g, 0, rfl, h2, h3, h4⟩)
    obtain ⟨L, HL⟩ : ∃ L, Hid (L = (encZ k zs).length) := ⟨_, rfl⟩
    rw [← HL.out, ← hfr.out] at HSU
    rw [← HL.out]
    clear hb1 he hc0 hc1 h3 h4
    go_wp2_with fail
    refine HSU.out.mono ?_
    rintro ev w2 ⟨rfl, hb2⟩
    have HR2 : Hid (w2.heap[G + 1]? = some (.cells (row .u8 z20).toArray 32 (0, 0))) := (hb2.block _ (by omega)).trans HR1.out
    have HB2 : Hid (Below G w w2) := HB1.out.trans (hb2.mono (by omega))
    have T1 : Hid (w2.there (G + 1) 0 (row .u8 fr).toArray.size) := hid (by rw [row_size, hfl]; exact there_row HR2.out rfl)
    have T4 : Hid (w2.there (G + 1) 0 (row .u8 fr).length) := hid (by rw [row_len, hfl]; exact there_row HR2.out rfl)
    clear hb2
    go_wp2_with (refine wpList_store_mid rfl 32 _ _ rfl (G + 1) 0 (row .u8 fr).toArray rfl rfl T1.out T2.out T3.out ?_)
    exact bodyPost_ret (v := .tuple #[.agg (row .u8 fr).toArray, .nilIface]) (results_mid2 Tryz.results10 _ _ (G + 1) _ _ rfl (World.rangeAt_setCells_same w2 (G + 1) 0 _ T4.out) Tryz.underlying32 rfl hi25) rfl ⟨by rw [HV.out, HE.out], by rw [HG.out]; exact below_setCells (by omega) _ _ _ _ HB2.out⟩
end Go.Proofs.YtbpdielmdhhdfaaGreatDoor
/- Package object: ReadTag. -/
namespace Go.Proofs.YtbpdielmdhhdfaaGreatDoor
open Go.RowKit
set_option linter.unusedVariables false
set_option linter.unusedSimpArgs false
theorem equal_any (a a2 : Option Addr) (cap cap2 : Nat) (zs ys : List Int) (w : World) (hS : Sl w a cap zs) (hS2 : Sl w a2 cap2 ys) :
    Calls Tryz.prog 124 #[.slice a zs.length cap, .slice a2 ys.length cap2] w fun e w' => e = .returned (.bool (Lib.bytesOf zs == Lib.bytesOf ys)) ∧ w' = w :=
  Any.bytes_Equal_all Tryz.laysb115 a a2 zs.length cap ys.length cap2 zs ys w rfl rfl hS.bytesIn hS2.bytesIn
/-- What a reader of tags gives: what it read, if that is written so. -/
def PostB (l : List UInt8) (e : Ending) : Prop := ∃ T, TG l T ∧ (((okG T ∧ tagB T = l) ∧ e = .returned (.tuple #[.agg (tgV T).toArray, .nilIface])) ∨ (¬ (okG T ∧ tagB T = l) ∧ e = .returned (.tuple #[.agg (tgV (tg0 z20)).toArray, .iface 35 (.int .i64 23)])))
theorem Tryz.results111 : Tryz.f111.results = #[.cell 8 71, .tmp 9] := by kernel_rfl
theorem Tryz.results67 : Tryz.f67.results = #[.cell 2 71, .tmp 3] := by kernel_rfl
theorem TG.lens {l : List UInt8} {T : Tg} (h : TG l T) : T.name.length ≤ l.length ∧ T.per.name.length ≤ l.length ∧ T.per.mail.length ≤ l.length ∧ T.msg.length ≤ l.length := by
  obtain ⟨_, _, h3, h4, h5⟩ := h
  have r1 := rst_le l
  have r2 := rst_le (rst l)
  have r3 := rst_le (rst (rst l))
  have r4 := rst_le (rst (rst (rst l)))
  have r5 := rst_le (rst (rst (rst (rst l))))
  have f2 := fld_le (rst (rst l)) wTag
  have f3 := fld_le (rst (rst (rst l))) wTagger
  have h41 := h4.1
  have h42 := h4.2.1
  rw [h3, h5]
  omega
set_option maxRecDepth 20000 in
set_option maxHeartbeats 2000000 in
theorem readBack_any (a : Option Addr) (cap : Nat) (zs : List Int) (hl : zs.length ≤ 200000) (hz : IsB zs) (w : World) (ht : Tab w) (he : Ers w) (hm : Mx w) (hS : Sl w a cap zs) :
    Calls Tryz.prog 111 #[.slice a zs.length cap, .int .i64 23, .func (.func 112) #[] #[], .func (.func 26) #[] #[]] w fun e w' => Below w.heap.size w w' ∧ PostB (Lib.bytesOf zs) e := by
  obtain ⟨ZV, HZ⟩ : ∃ l : List Value, Hid (l = tgV (tg0 z20)) := ⟨_, rfl⟩
  have hz71 := zero71
  rw [← HZ.out] at hz71
  have HZL : Hid (ZV.length = 27) := hid (by rw [HZ.out]; exact tgV_len _ rfl)
  have hi71z : (Tryz.prog.info? 71).map (·.size) = some ZV.length := by rw [HZL.out]; exact Tryz.size71
  have FI : Hid ((Tryz.prog.info? 71).map (·.size) = some ZV.toArray.size) := hid (by rw [List.size_toArray]; exact hi71z)
  have FO : Hid (ZV.toArray.all (·.oneCell') = true) := hid (by rw [HZ.out]; exact all_oneCell_toArray (tgV_one _))
  obtain ⟨n, HN⟩ : ∃ n, Hid (zs.length = n) := ⟨_, rfl⟩
  obtain ⟨l, HL⟩ : ∃ l, Hid (Lib.bytesOf zs = l) := ⟨_, rfl⟩
  have HLL : Hid (l.length ≤ 200000) := hid (by rw [← HL.out, Lib.bytesOf_length]; exact hl)
  obtain ⟨S, HSS⟩ : ∃ S : ByteArray, Hid (⟨l.toArray⟩ = S) := ⟨_, rfl⟩
  obtain ⟨G, HG⟩ : ∃ G, Hid (w.heap.size = G) := ⟨_, rfl⟩
  obtain ⟨w0, HW0⟩ : ∃ w0, Hid (w.alloc (.cells ZV.toArray 71) = w0) := ⟨_, rfl⟩
  have HB0 : Hid (Below G w w0) := hid (by rw [← HW0.out, ← HG.out]; exact (Below.refl _ w).alloc (Nat.le_refl _) _)
  have HR0 : Hid (w0.heap[G]? = some (.cells ZV.toArray 71 (0, 0))) := hid (by rw [← HW0.out, ← HG.out]; exact heap_alloc_new w _)
  have HCV : Hid ((convert 23 9 (.slice a n cap)).run Tryz.prog (w.alloc (.cells ZV.toArray 71)) = .ok (.string S) (w.alloc (.cells ZV.toArray 71))) := hid (by
    rw [← HSS.out, ← HL.out, ← HN.out]
    exact conv_str (hS.below (by rw [HW0.out, HG.out]; exact HB0.out)))
  have HT : Hid (∀ W, Below G w W → Tab W) := fun W hW => ht.below (by rw [HG.out]; exact hW)
  have HSL : Hid (∀ W, Below G w W → Sl W a cap zs) := fun W hW => hS.below (by rw [HG.out]; exact hW)
  have C1 : Hid (Calls Tryz.prog 112 #[.string S] w0 fun e w' => Below w0.heap.size w0 w' ∧ PostO l e) := hid (by
    rw [← HSS.out]
    exact tagOf_any l HLL.out w0 (he.below (by rw [HG.out]; exact HB0.out)) (hm.below (by rw [HG.out]; exact HB0.out)))
  rw [HN.out, HL.out]
  clear ht he hm hS
  have hcv := HCV.out
  go_enter Tryz.func111, Tryz.ntmps111
  go_wp2_with fail
  rw [HG.out, HW0.out]
  clear hcv HCV
  refine C1.out.mono ?_
  rintro ev w1 ⟨hb1, T, rfl, htg⟩
  have HTG : Hid (TG l T) := htg
  have HB1 : Hid (Below G w w1) := HB0.out.trans (hb1.mono (Nat.le_of_lt (lt_of_some HR0.out)))
  have HR1 : Hid (w1.heap[G]? = some (.cells ZV.toArray 71 (0, 0))) := hid ((hb1.block G (lt_of_some HR0.out)).trans HR0.out)
  have HID : Hid (T.id.length = 20) := htg.1.1
  clear htg hb1
  obtain ⟨TV, HTV⟩ : ∃ l : List Value, Hid (tgV T = l) := ⟨_, rfl⟩
  rw [HTV.out]
  have HVL : Hid (TV.length = 27) := hid (by rw [← HTV.out]; exact tgV_len T HID.out)
  have hi71 : (Tryz.prog.info? 71).map (·.size) = some TV.length := by rw [HVL.out]; exact Tryz.size71
  have CI : Hid ((Tryz.prog.info? 71).map (·.size) = some TV.toArray.size) := hid (by rw [List.size_toArray]; exact hi71)
  have CO : Hid (TV.toArray.all (·.oneCell') = true) := hid (by rw [← HTV.out]; exact all_oneCell_toArray (tgV_one T))
  have D0 : Hid ((w1.alloc (.cells ZV.toArray 71)).heap[w1.heap.size]? = some (.cells ZV.toArray 71 (0, 0))) := heap_alloc_new w1 _
  have D1 : Hid (ZV.toArray.size = TV.toArray.size) := hid (by rw [List.size_toArray, List.size_toArray, HZL.out, HVL.out])
  have D4 : Hid (((w1.alloc (.cells ZV.toArray 71)).setRow w1.heap.size TV.toArray).rangeAt w1.heap.size 0 TV) := hid (range_row (setRow_heap _ _ _ TV.toArray _ _ D0.out))
  go_wp2_with (first
    | refine wpList_store_row rfl 71 _ _ rfl w1.heap.size TV.toArray rfl rfl 71 ZV.toArray D0.out CI.out D1.out CO.out ?_
    | refine wpList_load_mid rfl 71 _ rfl w1.heap.size 0 rfl TV _ D4.out Tryz.underlying71 rfl hi71 ?_
    | fail)
  obtain ⟨H, HH⟩ : ∃ H, Hid (w1.heap.size = H) := ⟨_, rfl⟩
  have HGH : Hid (G < H) := hid (by rw [← HH.out]; exact lt_of_some HR1.out)
  obtain ⟨w2, HW2⟩ : ∃ w2, Hid ((w1.alloc (.cells ZV.toArray 71)).setRow w1.heap.size TV.toArray = w2) := ⟨_, rfl⟩
  have HB2 : Hid (Below G w w2) := hid (by rw [← HW2.out]; exact below_setRow (HB1.out.alloc (by rw [HH.out]; have := HGH.out; omega) _) (by rw [HH.out]; have := HGH.out; omega) _)
  have HR2 : Hid (w2.heap[G]? = some (.cells ZV.toArray 71 (0, 0))) := hid (by
    have hb2 := (Below.refl w1.heap.size w1).alloc (Nat.le_refl _) (.cells ZV.toArray 71)
    rw [← HW2.out, setRow_other _ _ _ _ (by rw [HH.out]; have := HGH.out; omega)]
    exact (hb2.block _ (by rw [HH.out]; exact HGH.out)).trans HR1.out)
  have HV2 : Hid (w2.heap[H]? = some (.cells TV.toArray 71 (0, 0))) := hid (by rw [← HW2.out, ← HH.out]; exact setRow_heap _ _ _ TV.toArray _ _ D0.out)
  rw [HW2.out, HH.out]
  clear hz71
  have hz71 : ∀ w : World, (zeroValue 71).run Tryz.prog w = .ok (.agg ZV.toArray) w := fun w => by rw [HZ.out]; exact zero71 w
  have C2 : Hid (Calls Tryz.prog 26 #[.agg TV.toArray] w2 (PostT T w2)) := hid (by
    rw [← HTV.out]
    have hln := HTG.out.lens
    have h2 := HLL.out
    exact writeTag_any T HID.out HTG.out.1.2.1 (by omega) (by omega) w2 (HT.out _ HB2.out))
  refine C2.out.mono ?_
  rintro ev w3 ⟨hb3, hor⟩
  have HB3 : Hid (Below G w w3) := HB2.out.trans (hb3.mono (Nat.le_of_lt (lt_of_some HR2.out)))
  have HR3 : Hid (w3.heap[G]? = some (.cells ZV.toArray 71 (0, 0))) := hid ((hb3.block G (lt_of_some HR2.out)).trans HR2.out)
  have HV3 : Hid (w3.heap[H]? = some (.cells TV.toArray 71 (0, 0))) := hid ((hb3.block H (lt_of_some HV2.out)).trans HV2.out)
  have FL : Hid ((w3.alloc (.cells ZV.toArray 71)).rangeAt w3.heap.size 0 ZV) := hid (range_row (heap_alloc_new w3 _))
  have HR4 : Hid ((w3.alloc (.cells ZV.toArray 71)).heap[G]? = some (.cells ZV.toArray 71 (0, 0))) := hid ((((Below.refl w3.heap.size w3).alloc (Nat.le_refl _) (.cells ZV.toArray 71)).block G (lt_of_some HR3.out)).trans HR3.out)
  have FS : Hid ((w3.alloc (.cells ZV.toArray 71)).there G 0 ZV.toArray.size) := hid (there_off HR4.out 0 (by omega))
  have FS' : Hid ((w3.alloc (.cells ZV.toArray 71)).there G 0 ZV.length) := hid (there_off HR4.out 0 (by rw [List.size_toArray]; omega))
  have BAD : Hid (¬ (okG T ∧ tagB T = l) → (Below w.heap.size w ((w3.alloc (.cells ZV.toArray 71)).setCells G 0 ZV) ∧ PostB l (.returned (.tuple #[.agg ZV.toArray, .iface 35 (.int .i64 23)])))) := fun hno => by
    refine ⟨by rw [HG.out]; exact below_setCells (Nat.le_refl _) _ _ _ _ (HB3.out.alloc (Nat.le_of_lt (lt_of_some HR3.out)) _), T, HTG.out, .inr ⟨hno, ?_⟩⟩
    rw [HZ.out]
  clear hb3
  rcases hor with ⟨hok, g, cp, rfl, hge, hmk⟩ | ⟨hno, rfl⟩
  rotate_left
  · have HNO : Hid (¬ (okG T ∧ tagB T = l)) := fun h => hno h.1
    clear hno
    go_wp2_with (first
      | refine wpList_load_mid rfl 71 _ rfl w3.heap.size 0 rfl ZV _ FL.out Tryz.underlying71 rfl hi71z ?_
      | refine wpList_store_mid rfl 71 _ _ rfl G 0 ZV.toArray rfl rfl FS.out FI.out FO.out ?_)
    refine bodyPost_ret (v := .tuple #[.agg ZV.toArray, .iface 35 (.int .i64 23)]) (results_mid2 Tryz.results111 _ _ G ZV _ rfl (World.rangeAt_setCells_same _ G 0 _ FS'.out) Tryz.underlying71 rfl hi71z) rfl ?_
    exact BAD.out HNO.out
  have HOK : Hid (okG T) := hok
  have HMK : Hid (Mk w3 g cp (nums (tagB T))) := hmk
  clear hok hmk hge
  obtain ⟨eq, HEQ⟩ : ∃ b : Bool, Hid ((tagB T == l) = b) := ⟨_, rfl⟩
  obtain ⟨tl, HTL⟩ : ∃ k, Hid ((tagB T).length = k) := ⟨_, rfl⟩
  have CE : Hid (Calls Tryz.prog 124 #[.slice (some ⟨g, 0, none⟩) tl cp, .slice a n cap] w3 fun e w' => e = .returned (.bool eq) ∧ w' = w3) := hid (by
    have h := equal_any (some ⟨g, 0, none⟩) a cp cap (nums (tagB T)) zs w3 HMK.out.sl (HSL.out _ HB3.out)
    rw [nums_len, HTL.out, bytesOf_nums, HL.out, HEQ.out, HN.out] at h
    exact h)
  rw [HTL.out]
  go_wp2_with fail
  refine CE.out.mono ?_
  rintro ev w3' ⟨rfl, hw3⟩
  have hw3' := hw3.symm
  subst hw3'
  clear hw3
  cases eq with
  | false =>
    have HNO : Hid (¬ (okG T ∧ tagB T = l)) := fun h => by have h2 := HEQ.out; rw [h.2] at h2; simp at h2
    go_wp2_with (first
      | refine wpList_load_mid rfl 71 _ rfl w3.heap.size 0 rfl ZV _ FL.out Tryz.underlying71 rfl hi71z ?_
      | refine wpList_store_mid rfl 71 _ _ rfl G 0 ZV.toArray rfl rfl FS.out FI.out FO.out ?_)
    refine bodyPost_ret (v := .tuple #[.agg ZV.toArray, .iface 35 (.int .i64 23)]) (results_mid2 Tryz.results111 _ _ G ZV _ rfl (World.rangeAt_setCells_same _ G 0 _ FS'.out) Tryz.underlying71 rfl hi71z) rfl ?_
    exact BAD.out HNO.out
  | true =>
    have HYE : Hid (tagB T = l) := hid (by have h2 := HEQ.out; simpa using h2)
    have GL : Hid (w3.rangeAt H 0 TV) := hid (range_row HV3.out)
    have GS : Hid (w3.there G 0 TV.toArray.size) := hid (there_off HR3.out 0 (by rw [← D1.out]; omega))
    have GS' : Hid (w3.there G 0 TV.length) := hid (there_off HR3.out 0 (by rw [List.size_toArray, HZL.out, HVL.out]; omega))
    go_wp2_with (first
      | refine wpList_load_mid rfl 71 _ rfl H 0 rfl TV _ GL.out Tryz.underlying71 rfl hi71 ?_
      | refine wpList_store_mid rfl 71 _ _ rfl G 0 TV.toArray rfl rfl GS.out CI.out CO.out ?_)
    refine bodyPost_ret (v := .tuple #[.agg TV.toArray, .nilIface]) (results_mid2 Tryz.results111 _ _ G TV _ rfl (World.rangeAt_setCells_same _ G 0 _ GS'.out) Tryz.underlying71 rfl hi71) rfl ⟨?_, ?_⟩
    · rw [HG.out]
      exact below_setCells (Nat.le_refl _) _ _ _ _ HB3.out
    · exact ⟨T, HTG.out, .inl ⟨⟨HOK.out, HYE.out⟩, by rw [HTV.out]⟩⟩
theorem PostB.form {l : List UInt8} {e : Ending} (h : PostB l e) : ∃ (X : Tg) (ev : Value), e = .returned (.tuple #[.agg (tgV X).toArray, ev]) ∧ X.id.length = 20 := by
  obtain ⟨T, htg, ⟨_, rfl⟩ | ⟨_, rfl⟩⟩ := h
  · exact ⟨T, _, rfl, htg.1.1⟩
  · exact ⟨tg0 z20, _, rfl, rfl⟩
set_option maxRecDepth 20000 in
set_option maxHeartbeats 1000000 in
theorem readTag_any (a : Option Addr) (cap : Nat) (zs : List Int) (hl : zs.length ≤ 200000) (hz : IsB zs) (w : World) (ht : Tab w) (he : Ers w) (hm : Mx w) (hS : Sl w a cap zs) :
    Calls Tryz.prog 67 #[.slice a zs.length cap] w fun e w' => Below w.heap.size w w' ∧ PostB (Lib.bytesOf zs) e := by
  obtain ⟨ZV, HZ⟩ : ∃ l : List Value, Hid (l = tgV (tg0 z20)) := ⟨_, rfl⟩
  have hz71 := zero71
  rw [← HZ.out] at hz71
  have HZL : Hid (ZV.length = 27) := hid (by rw [HZ.out]; exact tgV_len _ rfl)
  obtain ⟨n, HN⟩ : ∃ n, Hid (zs.length = n) := ⟨_, rfl⟩
  obtain ⟨G, HG⟩ : ∃ G, Hid (w.heap.size = G) := ⟨_, rfl⟩
  obtain ⟨w0, HW0⟩ : ∃ w0, Hid (w.alloc (.cells ZV.toArray 71) = w0) := ⟨_, rfl⟩
  have HB0 : Hid (Below G w w0) := hid (by rw [← HW0.out, ← HG.out]; exact (Below.refl _ w).alloc (Nat.le_refl _) _)
  have HR0 : Hid (w0.heap[G]? = some (.cells ZV.toArray 71 (0, 0))) := hid (by rw [← HW0.out, ← HG.out]; exact heap_alloc_new w _)
  have C1 : Hid (Calls Tryz.prog 111 #[.slice a n cap, .int .i64 23, .func (.func 112) #[] #[], .func (.func 26) #[] #[]] w0 fun e w' => Below w0.heap.size w0 w' ∧ PostB (Lib.bytesOf zs) e) := hid (by
    have hb : Below w.heap.size w w0 := by rw [HG.out]; exact HB0.out
    rw [← HN.out]
    exact readBack_any a cap zs hl hz w0 (ht.below hb) (he.below hb) (hm.below hb) (hS.below hb))
  rw [HN.out]
  clear ht he hm hS
  go_enter Tryz.func67, Tryz.ntmps67
  go_wp2_with fail
  rw [HG.out, HW0.out]
  refine C1.out.mono ?_
  rintro ev w1 ⟨hb1, hpb⟩
  obtain ⟨X, ev2, rfl, hx⟩ := hpb.form
  have HPB : Hid (PostB (Lib.bytesOf zs) (.returned (.tuple #[.agg (tgV X).toArray, ev2]))) := hpb
  have HB1 : Hid (Below G w w1) := HB0.out.trans (hb1.mono (Nat.le_of_lt (lt_of_some HR0.out)))
  have HR1 : Hid (w1.heap[G]? = some (.cells ZV.toArray 71 (0, 0))) := hid ((hb1.block G (lt_of_some HR0.out)).trans HR0.out)
  have HID : Hid (X.id.length = 20) := hx
  clear hpb hb1 hx
  obtain ⟨TV, HTV⟩ : ∃ l : List Value, Hid (tgV X = l) := ⟨_, rfl⟩
  rw [HTV.out] at HPB
  rw [HTV.out]
  have HVL : Hid (TV.length = 27) := hid (by rw [← HTV.out]; exact tgV_len X HID.out)
  have hi71 : (Tryz.prog.info? 71).map (·.size) = some TV.length := by rw [HVL.out]; exact Tryz.size71
  have CI : Hid ((Tryz.prog.info? 71).map (·.size) = some TV.toArray.size) := hid (by rw [List.size_toArray]; exact hi71)
  have CO : Hid (TV.toArray.all (·.oneCell') = true) := hid (by rw [← HTV.out]; exact all_oneCell_toArray (tgV_one X))
  have GS : Hid (w1.there G 0 TV.toArray.size) := hid (there_off HR1.out 0 (by rw [List.size_toArray, List.size_toArray, HZL.out, HVL.out]; omega))
  have GS' : Hid (w1.there G 0 TV.length) := hid (there_off HR1.out 0 (by rw [List.size_toArray, HZL.out, HVL.out]; omega))
  go_wp2_with (refine wpList_store_mid rfl 71 _ _ rfl G 0 TV.toArray rfl rfl GS.out CI.out CO.out ?_)
  refine bodyPost_ret (v := .tuple #[.agg TV.toArray, ev2]) (results_mid2 Tryz.results67 _ _ G TV _ rfl (World.rangeAt_setCells_same _ G 0 _ GS'.out) Tryz.underlying71 rfl hi71) rfl ⟨?_, HPB.out⟩
  rw [HG.out]
  exact below_setCells (Nat.le_refl _) _ _ _ _ HB1.out
end Go.Proofs.YtbpdielmdhhdfaaGreatDoor
/- Package object: a commit's parents in memory; 'differ'. -/
namespace Go.Proofs.YtbpdielmdhhdfaaGreatDoor
open Go.RowKit
set_option linter.unusedVariables false
set_option linter.unusedSimpArgs false
/-- Ids that are some. -/
def WfI (ids : List (List Int)) : Prop := ∀ x ∈ ids, x.length = 20 ∧ ∀ n ∈ x, 0 ≤ n ∧ n < 256
/-- Ids in memory, twenty cells each. -/
structure Pa (w : World) (a : Option Addr) (cap : Nat) (ids : List (List Int)) : Prop where
  capl : ids.length ≤ cap
  at_ : 0 < ids.length → ∃ b off, a = some ⟨b, off, none⟩ ∧ b < w.heap.size ∧ ∀ i, i < ids.length → w.rangeAt b (off + i * 20) (row .u8 (ids.getD i []))
  nil : a = none → cap = 0
theorem Pa.below {w w' : World} {a : Option Addr} {cap : Nat} {ids : List (List Int)} (h : Pa w a cap ids) (hb : Below w.heap.size w w') : Pa w' a cap ids :=
  ⟨h.capl, fun h0 => by
    obtain ⟨b, off, e1, e2, e3⟩ := h.at_ h0
    exact ⟨b, off, e1, Nat.lt_of_lt_of_le e2 hb.size, fun i hi j v hv => (hb.cell (p := ⟨b, off + i * 20 + j, none⟩) e2).trans (e3 i hi j v hv)⟩, h.nil⟩
theorem mapM_some {α β : Type} (f : α → Option β) : ∀ l : List α, (∀ i ∈ l, ∃ y, f i = some y) → ∃ ys, l.mapM f = some ys
  | [], _ => ⟨[], rfl⟩
  | a :: r, h => by
    obtain ⟨y, hy⟩ := h a (by simp)
    obtain ⟨ys, hys⟩ := mapM_some f r (fun i hi => h i (by simp [hi]))
    exact ⟨y :: ys, by simp [List.mapM_cons, hy, hys]⟩
theorem types333 : Tryz.prog.types.size = 333 := by kernel_rfl
theorem cellsOf5 : Tryz.prog.cellsOf 5 = 1 := by kernel_rfl
theorem cellsOf32 : Tryz.prog.cellsOf 32 = 20 := by kernel_rfl
theorem keyed32 : Maps.Keyed Tryz.prog 32 := Maps.Keyed.of_law (deep_law_laid (m := 10) (by kernel_rfl) (by decide) (of_decide_eq_true (by kernel_rfl)) (by kernel_rfl) (by kernel_rfl))
/-- An id is a key. -/
theorem key_id (x : List Int) (h : x.length = 20) (hb : ∀ n ∈ x, 0 ≤ n ∧ n < 256) : ∃ kl, keyOf Tryz.prog 32 (.agg (row .u8 x).toArray) = some kl := by
  have hlen : (row .u8 x).length = 20 := by rw [row_len]; exact h
  have hform : (Value.agg (row .u8 x).toArray).formed Tryz.prog 32 = true := by
    simp [Value.formed, Tryz.underlying32, hlen, cellsOf32]
  have hlits : ∃ ls, Tryz.prog.keyLits 334 32 (row .u8 x) = some ls := by
    obtain ⟨ys, hys⟩ := mapM_some (fun i => Tryz.prog.keyLits 333 5 (((row .u8 x).drop (i * Tryz.prog.cellsOf 5)).take (Tryz.prog.cellsOf 5))) (List.range 20) (fun i hi => by
      have hi2 : i < 20 := List.mem_range.1 hi
      refine ⟨[.int .u8 (x[i]'(by omega))], ?_⟩
      have e : ((row .u8 x).drop (i * Tryz.prog.cellsOf 5)).take (Tryz.prog.cellsOf 5) = [.int .u8 (x[i]'(by omega))] := by
        rw [cellsOf5, Nat.mul_one, List.drop_eq_getElem_cons (by omega)]
        simp [row]
      rw [e]
      have hw : (Lit.int .u8 (x[i]'(by omega))).wf = true := by
        have := hb _ (List.getElem_mem (l := x) (n := i) (by omega))
        exact WalkArith.wf_u8 ⟨this.1, by omega⟩
      unfold Program.keyLits
      rw [Tryz.underlying5]
      simp [hw])
    refine ⟨ys.flatten, ?_⟩
    unfold Program.keyLits
    rw [Tryz.underlying32]
    simp only [cellsOf32, hlen, if_true]
    rw [hys]
    rfl
  obtain ⟨ls, hls⟩ := hlits
  refine ⟨.string (keyBytes ls), ?_⟩
  unfold keyOf
  rw [Tryz.underlying32]
  simp only
  rw [if_pos (by rw [hform]; kernel_rfl), types333]
  show Option.map _ (Tryz.prog.keyLits (333 + 1) 32 (row .u8 x)) = _
  rw [hls]
  rfl
theorem row_inj {x y : List Int} (h : (Value.agg (row .u8 x).toArray) = .agg (row .u8 y).toArray) : x = y := by
  injection h with h
  have h2 : row .u8 x = row .u8 y := by simpa using congrArg Array.toList h
  unfold row at h2
  exact List.map_inj_right (fun a b e => by injection e) |>.1 h2
/-- What a map of the last places of ids tells: how many they are. -/
def DI (l : List (List Int)) (i : Nat) (D : DataW Unit) : Prop := (∀ kl, Maps.has D kl = true ↔ ∃ x ∈ l, keyOf Tryz.prog 32 (.agg (row .u8 x).toArray) = some kl) ∧ Maps.size D ≤ i ∧ (Maps.size D = i ↔ l.Nodup)
theorem di_zero : DI [] 0 (.map []) := ⟨fun kl => by simp [Maps.has], Nat.le_refl _, by simp [Maps.size]⟩
theorem DI.step {l : List (List Int)} {i : Nat} {D : DataW Unit} (h : DI l i D) (ht : Maps.Tidy D) (x : List Int) (kl : Lit) (hk : keyOf Tryz.prog 32 (.agg (row .u8 x).toArray) = some kl) (d : DataW Unit) : DI (l ++ [x]) (i + 1) (D.put kl d) := by
  obtain ⟨h1, h2, h3⟩ := h
  have hx : Maps.has D kl = true ↔ x ∈ l := by
    rw [h1]
    constructor
    · rintro ⟨y, hy, e⟩
      rw [← row_inj (keyed32.inj e hk)]
      exact hy
    · intro hx; exact ⟨x, hx, hk⟩
  refine ⟨fun kl' => ?_, ?_, ?_⟩
  · by_cases e : kl' = kl
    · subst e
      rw [Maps.has_put_same ht.isMap (keyed32.key hk)]
      simp only [true_iff]
      exact ⟨x, by simp, hk⟩
    · rw [Maps.has_put_other e, h1]
      constructor
      · rintro ⟨y, hy, e2⟩; exact ⟨y, by simp [hy], e2⟩
      · rintro ⟨y, hy, e2⟩
        rcases List.mem_append.1 hy with hy | hy
        · exact ⟨y, hy, e2⟩
        · have : y = x := by simpa using hy
          subst this
          rw [hk] at e2
          exact absurd (Option.some.inj e2).symm e
  · rw [Maps.size_put ht]
    split <;> omega
  · rw [Maps.size_put ht, List.nodup_append]
    by_cases hm : x ∈ l
    · rw [if_pos (hx.2 hm)]
      constructor
      · intro e; omega
      · rintro ⟨_, _, h⟩
        exact absurd rfl (h x hm x (by simp))
    · rw [if_neg (fun e => hm (hx.1 e))]
      constructor
      · intro e
        refine ⟨h3.1 (by omega), by simp, fun a ha b hb e2 => ?_⟩
        have : b = x := by simpa using hb
        rw [e2, this] at ha
        exact hm ha
      · rintro ⟨h, _, _⟩
        have := h3.2 h
        omega
theorem zero32 (w : World) : (zeroValue 32).run Tryz.prog w = .ok (.agg (row .u8 z20).toArray) w := by kernel_rfl
theorem take_snocI (ids : List (List Int)) (i : Nat) (h : i < ids.length) : ids.take (i + 1) = ids.take i ++ [ids.getD i []] := by
  rw [List.take_add_one, List.getD_eq_getElem?_getD, List.getElem?_eq_getElem h]
  rfl
theorem run_makeMap_some (n : Nat) (hn : n ≤ 1000) (w : World) : (Instr.makeMap 218 (some (.int .i64 (n : Int)))).run Tryz.prog w = .ok (.map (some w.heap.size)) (w.alloc (.map #[] 0)) := by
  have h : ¬ (n : Int) < 0 := by omega
  unfold Instr.makeMap
  go_simp
set_option maxRecDepth 20000 in
set_option maxHeartbeats 1000000 in
theorem differ_any (a : Option Addr) (cap : Nat) (ids : List (List Int)) (hwf : WfI ids) (hn : ids.length ≤ 1000) (w : World) (hP : Pa w a cap ids) :
    Calls Tryz.prog 99 #[.slice a ids.length cap] w fun e w' => BIs ids.Nodup e ∧ Below w.heap.size w w' := by
  obtain ⟨n, HN⟩ : ∃ n, Hid (ids.length = n) := ⟨_, rfl⟩
  obtain ⟨G, HG⟩ : ∃ G, Hid (w.heap.size = G) := ⟨_, rfl⟩
  have hnn : n ≤ 1000 := by rw [← HN.out]; exact hn
  obtain ⟨zr, HZ⟩ : ∃ zr : Array Value, Hid (zr = (row .u8 z20).toArray) := ⟨_, rfl⟩
  have hz32 : ∀ w : World, (zeroValue 32).run Tryz.prog w = .ok (.agg zr) w := fun w => by rw [HZ.out]; exact zero32 w
  have HPA : Hid (∀ W, Below G w W → Pa W a cap ids) := fun W hW => hP.below (by rw [HG.out]; exact hW)
  have HPL : Hid (0 < n → ∃ b off, a = some ⟨b, off, none⟩ ∧ b < G) := fun h0 => by
    obtain ⟨b, off, e1, e2, _⟩ := hP.at_ (by rw [HN.out]; exact h0)
    exact ⟨b, off, e1, by rw [← HG.out]; exact e2⟩
  obtain ⟨w1, HW1⟩ : ∃ w1, Hid (w.alloc (.map #[] 0) = w1) := ⟨_, rfl⟩
  have OW1 : Hid (w1.ownsMap (H := Unit) Tryz.prog 32 (plainElem Tryz.prog 3) G 0 (.map [])) := hid (by rw [← HW1.out, ← HG.out]; exact World.ownsMap_made _ _ _ _)
  have HB1 : Hid (Below G w w1) := hid (by rw [← HW1.out, ← HG.out]; exact (Below.refl _ w).alloc (Nat.le_refl _) _)
  have hmm : (Instr.makeMap 218 (some (.int .i64 (n : Int)))).run Tryz.prog w = .ok (.map (some w.heap.size)) (w.alloc (.map #[] 0)) := run_makeMap_some n hnn w
  rw [HN.out]
  clear hP
  go_enter Tryz.func99, Tryz.ntmps99
  go_wp2_with fail
  rw [HG.out, HW1.out]
  go_loopg [11] n (fun g v wr => ∃ (i : Nat) (D : DataW Unit), i ≤ n ∧ v = .int .i64 i ∧ g = n - i ∧ Hid (wr.ownsMap (H := Unit) Tryz.prog 32 (plainElem Tryz.prog 3) G i D) ∧ Hid (Below G w wr) ∧ Hid (DI (ids.take i) i D))
  case atStart => exact ⟨0, _, Nat.zero_le _, rfl, rfl, OW1, HB1, hid (by rw [List.take_zero]; exact di_zero)⟩
  case round =>
    obtain ⟨i, D, hi, rfl, hk, OW, HB, HD⟩ := hrel
    by_cases hlt : i < n
    · have hlti : (i : Int) < (n : Int) := by omega
      obtain ⟨b, off, hae, hbG⟩ := HPL.out (by omega)
      subst hae
      obtain ⟨b', off', e1, e2, e3⟩ := (HPA.out wr HB.out).at_ (by rw [HN.out]; omega)
      cases e1
      obtain ⟨x, HX⟩ : ∃ x, Hid (ids.getD i [] = x) := ⟨_, rfl⟩
      have hxm : x ∈ ids := by
        rw [← HX.out, List.getD_eq_getElem?_getD, List.getElem?_eq_getElem (by rw [HN.out]; exact hlt)]
        exact List.getElem_mem _
      obtain ⟨hx20, hxb⟩ := hwf x hxm
      obtain ⟨kl, hkl⟩ := key_id x hx20 hxb
      obtain ⟨RF, HRF⟩ : ∃ R : List Value, Hid (row .u8 x = R) := ⟨_, rfl⟩
      have HKL : Hid (keyOf Tryz.prog 32 (.agg RF.toArray) = some kl) := hid (by rw [← HRF.out]; exact hkl)
      have HKX : Hid (keyOf Tryz.prog 32 (.agg (row .u8 x).toArray) = some kl) := hkl
      have RR : Hid (wr.rangeAt b (off + i * 20) RF) := hid (by rw [← HRF.out, ← HX.out]; exact e3 i (by rw [HN.out]; exact hlt))
      have HFN : Hid (RF.length = 20) := hid (by rw [← HRF.out, row_len]; exact hx20)
      have hi32 : (Tryz.prog.info? 32).map (·.size) = some RF.length := by rw [HFN.out]; exact Tryz.size32
      have I32 : Hid ((Tryz.prog.info? 32).map (·.size) = some RF.toArray.size) := hid (by rw [List.size_toArray]; exact hi32)
      have E32 : Hid (zr.size = RF.toArray.size) := hid (by rw [HZ.out, List.size_toArray, List.size_toArray, HFN.out]; rfl)
      have O32 : Hid (RF.toArray.all (·.oneCell') = true) := hid (by rw [← HRF.out]; exact all_oneCell_toArray (row_one _ _))
      have D0 : Hid ((wr.alloc (.cells zr 32)).heap[wr.heap.size]? = some (.cells zr 32 (0, 0))) := heap_alloc_new wr _
      obtain ⟨w2, HW2⟩ : ∃ w2, Hid ((wr.alloc (.cells zr 32)).setRow wr.heap.size RF.toArray = w2) := ⟨_, rfl⟩
      obtain ⟨H, HH⟩ : ∃ H, Hid (wr.heap.size = H) := ⟨_, rfl⟩
      have hb2 : Below wr.heap.size wr w2 := by rw [← HW2.out]; exact below_setRow ((Below.refl _ wr).alloc (Nat.le_refl _) _) (Nat.le_refl _) _
      have R2 : Hid (w2.rangeAt H 0 RF) := hid (by rw [← HW2.out, ← HH.out]; exact range_row (setRow_heap _ _ _ RF.toArray _ _ D0.out))
      have OW2 : Hid (w2.ownsMap (H := Unit) Tryz.prog 32 (plainElem Tryz.prog 3) G i D) := OW.out.kept (row := none) (grown_of_below hb2 _) (by simp)
      have HB2 : Hid (Below G w w2) := HB.out.trans (hb2.mono (Nat.le_of_lt OW.out.lt))
      have HWF : Hid ((Lit.int .i64 (i : Int)).wf = true) := hid (WalkArith.wf_i64 (by omega))
      clear hb2 hkl hxm hx20 hxb e3 e2
      go_wp2_with (first
        | refine wpList_load_mid rfl 32 _ rfl b (off + i * 20) rfl RF _ RR.out Tryz.underlying32 rfl hi32 ?_
        | (refine wpList_store_row rfl 32 _ _ rfl wr.heap.size RF.toArray rfl rfl 32 zr D0.out I32.out E32.out O32.out ?_; rw [HW2.out, HH.out])
        | refine wpList_load_mid rfl 32 _ rfl H 0 rfl RF _ R2.out Tryz.underlying32 rfl hi32 ?_
        | (at_mapUpdate; refine wpList_mapUpdate_own _ rfl _ _ _ 218 rfl 32 3 keyed32 Tryz.underlying218 _ G i D rfl OW2.out (by unfold maxLen; omega) _ _ kl rfl rfl HKL.out _ [] (plainElem_int Tryz.underlying3 HWF.out) ?_; intro w3 hown3 hgrow3; have OW3 : Hid _ := hown3; have HB3 : Hid (Below G w w3) := HB2.out.grown hgrow3 (Nat.le_of_lt OW2.out.lt) (fun j hj => by cases hj; exact Nat.le_refl _); clear hown3 hgrow3))
      go_roundg (n - (i + 1))
      case measure => omega
      case rel =>
        refine ⟨i + 1, _, by omega, by go_num, rfl, OW3, HB3, hid ?_⟩
        rw [take_snocI ids i (by rw [HN.out]; exact hlt), HX.out]
        exact HD.out.step (OW2.out.tidy keyed32) x kl HKX.out _
    · have hlti : ¬ (i : Int) < (n : Int) := by omega
      have hin : i = n := by omega
      have HDN : Hid (Maps.size D = n ↔ ids.Nodup) := hid (by
        have := HD.out.2.2
        rw [hin, List.take_of_length_le (by rw [HN.out]; omega)] at this
        exact this)
      obtain ⟨sz, HSZ⟩ : ∃ sz, Maps.size D = sz := ⟨_, rfl⟩
      obtain ⟨eq, HEQ⟩ : ∃ b : Bool, ((sz : Int) == (n : Int)) = b := ⟨_, rfl⟩
      have FIN : Hid (BIs ids.Nodup (.returned (.bool eq))) := ⟨eq, rfl, by
        rw [← HDN.out, HSZ, ← HEQ]
        simp only [beq_iff_eq]
        omega⟩
      go_wp2_with (first
        | (at_len; refine wpList_len_own _ rfl _ 218 rfl 32 3 Tryz.underlying218 _ G i D rfl OW.out ?_; rw [HSZ]))
      go_ret
      exact ⟨FIN.out, by rw [HG.out]; exact HB.out⟩
end Go.Proofs.YtbpdielmdhhdfaaGreatDoor
