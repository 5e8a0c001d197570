/- The law 'PackIndexes': its walk. -/
import Derived.Test.YtdfihfmmfmoabaaDoorPkX
namespace Go.Proofs.YtdfihfmmfmoabaaDoor
open Go.RowKit Go.Shelf
variable [Inhabited Pn]
set_option linter.unusedVariables false
set_option linter.unusedSectionVars false
set_option linter.unusedSimpArgs false
theorem eqFields_true {P : Program} (d : Nat) (xs : Array Value) : ∀ (fs : List Field) (w : World), (∀ f ∈ fs, ∃ v, (∀ w : World, (part f.type xs f.offset).run P w = .ok v w) ∧ ∀ w : World, (Op.equalIn d f.type v v).run P w = .ok true w) → (Op.eqFields d xs xs fs).run P w = .ok true w
  | [], w, _ => by simp [Op.eqFields]
  | f :: fs, w, h => by
    obtain ⟨v, h1, h2⟩ := h f (by simp)
    have ih := eqFields_true d xs fs w (fun g hg => h g (by simp [hg]))
    simp only [Op.eqFields]
    split
    · simp only [Sem.run_bind, h1, h2, Result.andThen_ok]
      simpa using ih
    · exact ih
theorem fields32 : (Tryd.prog.fieldsOf 32).toList.map (fun f => (f.type, f.offset)) = [(24, 0), (3, 20), (30, 21)] := by kernel_rfl
theorem under32 : Tryd.prog.underlying 32 = some (.struct (Tryd.prog.fieldsOf 32)) := by kernel_rfl
theorem held32 : Tryd.prog.stoodInHeld 32 = false := by kernel_rfl
theorem und3 : Tryd.prog.underlying 3 = some (.int .i64) := by kernel_rfl
theorem und30 : Tryd.prog.underlying 30 = some (.int .u32) := by kernel_rfl
set_option maxRecDepth 20000 in
theorem part32 (x : Pl) (h : x.id.length = 20) (w : World) :
    (part 24 (plV x).toArray 0).run Tryd.prog w = .ok (.agg (row .u8 x.id).toArray) w ∧ (part 3 (plV x).toArray 20).run Tryd.prog w = .ok (.int .i64 x.off) w ∧ (part 30 (plV x).toArray 21).run Tryd.prog w = .ok (.int .u32 x.crc) w := by
  obtain ⟨id, o, c⟩ := x
  obtain ⟨a0, a1, a2, a3, a4, a5, a6, a7, a8, a9, a10, a11, a12, a13, a14, a15, a16, a17, a18, a19, rfl⟩ := list20 id h
  exact ⟨by kernel_rfl, by kernel_rfl, by kernel_rfl⟩
theorem eq24s (id : List Int) (h : id.length = 20) (w : World) : (Op.equalIn 9999 24 (.agg (row .u8 id).toArray) (.agg (row .u8 id).toArray)).run Tryd.prog w = .ok true w := by
  obtain ⟨i5, hi, -⟩ := info_parts Tryd.info5
  rw [show (9999 : Nat) = 9998 + 1 from rfl, run_equalIn_array w 9998 _ _ Tryd.underlying24 hi, cells5]
  exact eqItems_same 9997 5 plain5 Tryd.underlying5 id _ w (fun j hj => by rw [h]; simpa using hj)
theorem eq32 (x : Pl) (h : x.id.length = 20) (w : World) : (Op.equalIn 10000 32 (.agg (plV x).toArray) (.agg (plV x).toArray)).run Tryd.prog w = .ok true w := by
  rw [show (10000 : Nat) = 9999 + 1 from rfl, run_equalIn_struct w 9999 32 _ _ under32 held32]
  refine eqFields_true 9999 _ _ w (fun f hf => ?_)
  have hm : (f.type, f.offset) ∈ (Tryd.prog.fieldsOf 32).toList.map (fun f => (f.type, f.offset)) := List.mem_map.2 ⟨f, hf, rfl⟩
  rw [fields32] at hm
  simp only [List.mem_cons, List.not_mem_nil, or_false, Prod.mk.injEq] at hm
  rcases hm with ⟨e1, e2⟩ | ⟨e1, e2⟩ | ⟨e1, e2⟩
  · rw [e1, e2]
    exact ⟨_, fun w => (part32 x h w).1, fun w => eq24s x.id h w⟩
  · rw [e1, e2]
    exact ⟨_, fun w => (part32 x h w).2.1, fun w => by rw [show (9999 : Nat) = 9998 + 1 from rfl, run_equalIn_int w 9998 3 .i64 .i64 x.off x.off und3]; simp⟩
  · rw [e1, e2]
    exact ⟨_, fun w => (part32 x h w).2.2, fun w => by rw [show (9999 : Nat) = 9998 + 1 from rfl, run_equalIn_int w 9998 30 .u32 .u32 x.crc x.crc und30]; simp⟩
/-- One place, twice. -/
structure Q3 (b1 o1 b2 o2 : Nat) (R : List Value) (W : World) : Prop where
  r1 : W.rangeAt b1 o1 R
  r2 : W.rangeAt b2 o2 R
/-- What is written of places, and the error's number. -/
def WrX (l : List Pl) (sum X : List Int) (er : Int) : Prop := (okX l ∧ X = idxF (srtI l) sum ∧ er = 0) ∨ (¬ okX l ∧ X = [] ∧ er = 42)
theorem wrX_some (l : List Pl) (sum : List Int) : ∃ X er, WrX l sum X er := by
  by_cases h : okX l
  · exact ⟨_, _, .inl ⟨h, rfl, rfl⟩⟩
  · exact ⟨_, _, .inr ⟨h, rfl, rfl⟩⟩
def erX (er : Int) : Value := if er = 0 then .nilIface else .iface 38 (.int .i64 er)
theorem sl_none (w : World) : Sl w none 0 [] := ⟨Nat.le_refl _, (fun h => by cases h), fun _ => rfl⟩
theorem writeX_x (a : Option Addr) (cap : Nat) (l : List Pl) (sum : List Int) (hs20 : sum.length = 20) (hsb : IsB sum) (X : List Int) (er : Int) (hX : WrX l sum X er) (w : World) (hw : Wp l) (hl : l.length ≤ 1000) (hP : Pp w a cap l) (ha : Plain0 a) :
    Calls Tryd.prog 4 #[.slice a l.length cap, .agg (row .u8 sum).toArray] w fun e w' => Below w.heap.size w w' ∧ ∃ ax cx, e = .returned (.tuple #[.slice ax X.length cx, erX er]) ∧ Sl w' ax cx X := by
  refine (writeIdx_any a cap l sum hs20 hsb w hw hl hP ha).mono ?_
  rintro e w' ⟨hb, s, hp, hs, hor⟩
  refine ⟨hb, ?_⟩
  rcases hX with ⟨hok, rfl, rfl⟩ | ⟨hno, rfl, rfl⟩
  · have hone : s = srtI l := srt_one _ _ (hp.trans (srtI_both _).1.symm) (wp_perm hp hw) (((okX_perm hp).2 hok).2) hs (srtI_both _).2
    subst hone
    rcases hor with ⟨_, ax, cx, rfl, hsl⟩ | ⟨hno, _⟩
    · exact ⟨ax, cx, rfl, hsl⟩
    · exact absurd hok hno
  · rcases hor with ⟨hok, _⟩ | ⟨_, rfl⟩
    · exact absurd hok hno
    · exact ⟨none, 0, rfl, sl_none w'⟩
theorem writeR_x (a : Option Addr) (cap : Nat) (l : List Pl) (sum : List Int) (hs20 : sum.length = 20) (hsb : IsB sum) (X : List Int) (er : Int) (hX : WrX l sum X er) (w : World) (hw : Wp l) (hl : l.length ≤ 1000) (hP : Pp w a cap l) :
    Calls Tryd.prog 6 #[.slice a l.length cap, .agg (row .u8 sum).toArray] w fun e w' => Below w.heap.size w w' ∧ ∃ ax cx, e = .returned (.tuple #[.slice ax X.length cx, .int .i64 er]) ∧ Sl w' ax cx X := by
  refine (refWrite_any a cap l sum hs20 hsb w hw hl hP).mono ?_
  rintro e w' ⟨hb, hor⟩
  refine ⟨hb, ?_⟩
  rcases hX with ⟨hok, rfl, rfl⟩ | ⟨hno, rfl, rfl⟩
  · rcases hor with ⟨_, ax, cx, rfl, hsl⟩ | ⟨hno, _⟩
    · exact ⟨ax, cx, rfl, hsl⟩
    · exact absurd hok hno
  · rcases hor with ⟨hok, _⟩ | ⟨_, rfl⟩
    · exact absurd hok hno
    · exact ⟨none, 0, rfl, sl_none w'⟩
theorem walkX_long (a a2 : Option Addr) (n cap m cap2 : Nat) (S Y : Array Value) (w : World) (h : 200 < n ∨ 9000 < m) :
    Calls Tryd.prog 3 #[.slice a n cap, .agg S, .slice a2 m cap2, .agg Y] w fun e w' => e = .returned (.bool true) ∧ Below w.heap.size w w' := by
  have HB : Hid (Below w.heap.size w ((w.alloc (.cells S 24)).alloc (.cells Y 24))) := hid (((Below.refl _ w).alloc (Nat.le_refl _) _).alloc (by simp) _)
  by_cases h1 : 200 < n
  · have h1i : (200 : Int) < (n : Int) := by omega
    go_enter Tryd.func3, Tryd.ntmps3
    go_wp2
    go_ret
    exact ⟨rfl, HB.out⟩
  · have h1i : ¬ (200 : Int) < (n : Int) := by omega
    have h2i : (9000 : Int) < (m : Int) := by omega
    go_enter Tryd.func3, Tryd.ntmps3
    go_wp2
    go_ret
    exact ⟨rfl, HB.out⟩
theorem bp_plain {e : TypeId} {w0 w : World} {B : Nat} {a : Option Addr} {n cap : Nat} {l : List Pl} (h : Bp e w0 w B (.slice a n cap) l) : Plain0 a := by
  obtain ⟨_, ⟨h1, _⟩ | ⟨g, c, cur, h1, _⟩⟩ := h.own
  · cases h1; exact .inl rfl
  · cases h1; exact .inr ⟨g, 0, rfl⟩
theorem bp_shape {e : TypeId} {w0 w : World} {B n : Nat} {v : Value} {l : List Pl} (h : Bp e w0 w B v ([] ++ l)) (hn : l.length = n) : ∃ va vc, v = .slice va n vc := by
  have ho := h.own
  rw [List.nil_append, hn] at ho
  exact owns_shape ho
set_option maxRecDepth 20000 in
set_option maxHeartbeats 8000000 in
theorem walkX_short (a : Option Addr) (cap : Nat) (l : List Pl) (sum : List Int) (a2 : Option Addr) (cap2 : Nat) (ys y : List Int) (w : World) (hn : l.length ≤ 200) (hm : ys.length ≤ 9000) (hwp : Wp l) (hP : Pp w a cap l) (hs20 : sum.length = 20) (hsb : IsB sum) (hy : IsB ys) (hS : Sl w a2 cap2 ys) (hy20 : y.length = 20) (hyb : IsB y) (hw : Hand w) :
    Calls Tryd.prog 3 #[.slice a l.length cap, .agg (row .u8 sum).toArray, .slice a2 ys.length cap2, .agg (row .u8 y).toArray] w fun e w' => e = .returned (.bool true) ∧ Below w.heap.size w w' := by
  obtain ⟨X, er, hX⟩ := wrX_some l sum
  have HX : Hid (WrX l sum X er) := hX
  have HXB : Hid (IsB X) := hid (by
    rcases hX with ⟨_, rfl, _⟩ | ⟨_, rfl, _⟩
    · exact idxF_isB _ _ (wp_perm (srtI_both l).1 hwp) hsb
    · intro x hx; cases hx)
  have hXL : X.length ≤ 20000 := by
    rcases hX with ⟨_, rfl, _⟩ | ⟨_, rfl, _⟩
    · rw [idxF_len _ _ (fun p hp => (wp_perm (srtI_both l).1 hwp p hp).1) hs20, srtI_len]; omega
    · simp
  have HER : Hid ((er = 0) ∨ (er = 42 ∧ X = [])) := hid (by
    rcases hX with ⟨_, _, h⟩ | ⟨_, h1, h2⟩
    · exact .inl h
    · exact .inr ⟨h2, h1⟩)
  obtain ⟨n, HN⟩ : ∃ n, Hid (l.length = n) := ⟨_, rfl⟩
  obtain ⟨m, HM⟩ : ∃ n, Hid (ys.length = n) := ⟨_, rfl⟩
  obtain ⟨xl, HXL⟩ : ∃ n, Hid (X.length = n) := ⟨_, rfl⟩
  have hnn : n ≤ 200 := by rw [← HN.out]; exact hn
  have hmm : m ≤ 9000 := by rw [← HM.out]; exact hm
  have h1i : ¬ (200 : Int) < (n : Int) := by omega
  have h2i : ¬ (9000 : Int) < (m : Int) := by omega
  obtain ⟨G, HG⟩ : ∃ G, Hid (w.heap.size = G) := ⟨_, rfl⟩
  have hG0 : 0 < G := by rw [← HG.out]; exact hw.lt
  obtain ⟨SU, HSU⟩ : ∃ S : List Value, Hid (row .u8 sum = S) := ⟨_, rfl⟩
  obtain ⟨Y, HY⟩ : ∃ S : List Value, Hid (row .u8 y = S) := ⟨_, rfl⟩
  obtain ⟨eV, HEV⟩ : ∃ v, Hid (erX er = v) := ⟨_, rfl⟩
  have hiS : (Tryd.prog.info? 24).map (·.size) = some SU.length := by rw [← HSU.out, row_len, hs20]; exact Tryd.size24'
  have hiY : (Tryd.prog.info? 24).map (·.size) = some Y.length := by rw [← HY.out, row_len, hy20]; exact Tryd.size24'
  obtain ⟨w1, HW1⟩ : ∃ w1, Hid ((w.alloc (.cells SU.toArray 24)).alloc (.cells Y.toArray 24) = w1) := ⟨_, rfl⟩
  have hb1 : Below w.heap.size w w1 := by rw [← HW1.out]; exact ((Below.refl _ w).alloc (Nat.le_refl _) _).alloc (by simp) _
  have HB1 : Hid (Below G w w1) := hid (by rw [← HG.out]; exact hb1)
  have HS1 : Hid (w1.heap[G]? = some (.cells SU.toArray 24 (0, 0))) := hid (by
    rw [← HW1.out, ← HG.out]
    show ((w.heap.push _).push _)[w.heap.size]? = _
    rw [Array.getElem?_push, if_neg (by simp), Array.getElem?_push, if_pos rfl])
  have HY1 : Hid (w1.heap[G + 1]? = some (.cells Y.toArray 24 (0, 0))) := hid (by
    rw [← HW1.out, ← HG.out]
    show ((w.heap.push _).push _)[w.heap.size + 1]? = _
    rw [Array.getElem?_push, if_pos (by simp)])
  obtain ⟨H, HH⟩ : ∃ H, Hid (w1.heap.size = H) := ⟨_, rfl⟩
  have hGH : G + 1 < H := by rw [← HH.out]; exact lt_of_some HY1.out
  have HBW : Hid (∀ W, Below H w1 W → Below G w W) := fun W hW => HB1.out.trans (hW.mono (by omega))
  have HSS : Hid (∀ W, Below H w1 W → W.rangeAt G 0 SU) := fun W hW => range_row ((hW.block G (by omega)).trans HS1.out)
  have HYY : Hid (∀ W, Below H w1 W → W.rangeAt (G + 1) 0 Y) := fun W hW => range_row ((hW.block (G + 1) hGH).trans HY1.out)
  have HHW : Hid (∀ W, Below H w1 W → Hand W) := fun W hW => hw.below hG0 (HBW.out W hW)
  have HPA : Hid (∀ W, Below H w1 W → Pp W a cap l) := fun W hW => hP.below (by rw [HG.out]; exact HBW.out W hW)
  have HPL : Hid (0 < n → ∃ b off, a = some ⟨b, off, none⟩) := fun h0 => by
    obtain ⟨b, off, e1, e2, _⟩ := hP.at_ (by rw [HN.out]; exact h0)
    exact ⟨b, off, e1⟩
  have hcap : n ≤ cap := by rw [← HN.out]; exact hP.capl
  have HYS : Hid (∀ W, Below H w1 W → Sl W a2 cap2 ys) := fun W hW => hS.below (by rw [HG.out]; exact HBW.out W hW)
  have HWP : Hid (Wp l) := hwp
  have HQ : Hid (∀ x ∈ l, x.id.length = 20) := fun p hp => (hwp p hp).1
  have C4 : Hid (∀ (W : World) (va : Option Addr) (vc : Nat), Pp W va vc l → Plain0 va → Calls Tryd.prog 4 #[.slice va n vc, .agg SU.toArray] W fun e w' => Below W.heap.size W w' ∧ ∃ ax cx, e = .returned (.tuple #[.slice ax xl cx, eV]) ∧ Sl w' ax cx X) := fun W va vc h1 h2 => by
    have := writeX_x va vc l sum hs20 hsb X er hX W hwp (by omega) h1 h2
    rw [HN.out, HSU.out, HXL.out, HEV.out] at this
    exact this
  have C6 : Hid (∀ (W : World) (va : Option Addr) (vc : Nat), Pp W va vc l → Calls Tryd.prog 6 #[.slice va n vc, .agg SU.toArray] W fun e w' => Below W.heap.size W w' ∧ ∃ ax cx, e = .returned (.tuple #[.slice ax xl cx, .int .i64 er]) ∧ Sl w' ax cx X) := fun W va vc h1 => by
    have := writeR_x va vc l sum hs20 hsb X er hX W hwp (by omega) h1
    rw [HN.out, HSU.out, HXL.out] at this
    exact this
  have C5 : Hid (∀ W, Below H w1 W → Calls Tryd.prog 5 #[.slice a n cap] W fun e w' => Below W.heap.size W w' ∧ ∃ a' cap', e = .returned (.slice a' n cap') ∧ Pp w' a' cap' l) := fun W hW => by
    have := places_any a cap l HQ.out (by omega) W (HPA.out W hW)
    rw [HN.out] at this
    exact this
  have C9 : Hid (∀ W, Below H w1 W → Calls Tryd.prog 9 #[.slice a2 m cap2, .agg Y.toArray] W fun e w' => e = .returned (.bool true) ∧ Below W.heap.size W w') := fun W hW => by
    have := readsIdx_any a2 cap2 ys y W hy (by omega) (HYS.out W hW) hy20 hyb (HHW.out W hW)
    rw [HM.out, HY.out] at this
    exact this
  have C9x : Hid (∀ (W : World) (ax : Option Addr) (cx : Nat) (z : List Int), Below H w1 W → Sl W ax cx X → z.length = 20 → IsB z → Calls Tryd.prog 9 #[.slice ax xl cx, .agg (row .u8 z).toArray] W fun e w' => e = .returned (.bool true) ∧ Below W.heap.size W w') := fun W ax cx z hW h1 h2 h3 => by
    have := readsIdx_any ax cx X z W HXB.out hXL h1 h2 h3 (HHW.out W hW)
    rw [HXL.out] at this
    exact this
  have C7 : Hid (∀ (W : World) (ax ay : Option Addr) (cx cy : Nat), Sl W ax cx X → Sl W ay cy X → Calls Tryd.prog 7 #[.slice ax xl cx, .slice ay xl cy] W fun e w' => e = .returned (.bool true) ∧ Below W.heap.size W w') := fun W ax ay cx cy h1 h2 => by
    have := same_any ax ay cx cy X W (by omega) (fun h0 => by obtain ⟨b, off, e1, _, e3⟩ := h1.at_ h0; exact ⟨b, off, e1, e3⟩) (fun h0 => by obtain ⟨b, off, e1, _, e3⟩ := h2.at_ h0; exact ⟨b, off, e1, e3⟩)
    rw [HXL.out] at this
    refine this.mono ?_
    rintro e w' ⟨rfl, q, rfl⟩
    exact ⟨rfl, below_drewH (Below.refl _ _) _⟩
  have CT : Hid (∀ W, Below H w1 W → Calls Tryd.prog 8 #[eV] W fun e w' => e = .returned (.int .i64 er) ∧ Below W.heap.size W w') := fun W hW => by
    rw [← HEV.out]
    unfold erX
    by_cases h0 : er = 0
    · rw [if_pos h0, h0]; exact tell_nil W
    · rw [if_neg h0]; exact tell_errno er W (HHW.out W hW)
  have HYL : Hid (y.length = 20 ∧ IsB y) := ⟨hy20, hyb⟩
  rw [HN.out, HM.out, HSU.out, HY.out]
  have HBP0 : Hid (Bp 32 w1 w1 H (.slice none 0 0) []) := hid (bp_nil 32 w1 H (by rw [HH.out]; exact Nat.le_refl _))
  have HP1 : Hid (Pp w1 a cap l) := hid (HPA.out w1 (Below.refl _ _))
  clear hP hS hw hb1 hX hy hsb hs20 hy20 hyb hwp
  go_enter Tryd.func3, Tryd.ntmps3
  go_wp2_with (first
    | (at_builtin; rw [HW1.out, HG.out]; refine wpList_bp_sl rfl _ _ 22 32 Tryd.underlying22 Tryd.info32p rfl H _ _ rfl HBP0.out a cap l (by rw [HN.out]; rfl) HP1.out HQ.out (by rw [HN.out]; simp; omega) ?_; intro v2 w2 hb2 hg2; have HBP2 : Hid (Bp 32 w1 w2 H v2 ([] ++ l)) := hb2; clear hb2 hg2; obtain ⟨va, vc, hv⟩ := bp_shape HBP2.out HN.out; subst hv; have RS2 : Hid (w2.rangeAt G 0 SU) := hid (HSS.out _ HBP2.out.below))
    | refine wpList_load_mid rfl 24 _ rfl G 0 rfl SU _ RS2.out Tryd.underlying24 rfl hiS ?_
    | fail)
  have HPV2 : Hid (Pp w2 va vc l) := hid (HBP2.out.pp HQ.out (by rw [List.nil_append]; exact HN.out)).1
  have hvc : n ≤ vc := by rw [← HN.out]; exact HPV2.out.capl
  have hHw2 : H ≤ w2.heap.size := HBP2.out.le
  refine (C4.out w2 va vc HPV2.out (bp_plain HBP2.out)).mono ?_
  rintro ev w3 ⟨hb3, ax, cx, rfl, hs3⟩
  have HB3 : Hid (Below H w1 w3) := hid (HBP2.out.below.trans (hb3.mono hHw2))
  have HPV3 : Hid (Pp w3 va vc l) := hid (HPV2.out.below hb3)
  have HX3 : Hid (Sl w3 ax cx X) := hs3
  obtain ⟨J, HJ⟩ : ∃ J, Hid (w3.heap.size = J) := ⟨_, rfl⟩
  have hHJ : H ≤ J := by rw [← HJ.out]; exact Nat.le_trans hHw2 hb3.size
  have HBJ : Hid (∀ W, Below J w3 W → Below H w1 W) := fun W hW => HB3.out.trans (hW.mono hHJ)
  have HXJ : Hid (∀ W, Below J w3 W → Sl W ax cx X) := fun W hW => HX3.out.below (by rw [HJ.out]; exact hW)
  have HPJ : Hid (∀ W, Below J w3 W → Pp W va vc l) := fun W hW => HPV3.out.below (by rw [HJ.out]; exact hW)
  clear hb3 hs3 HBP2 HPV2 RS2
  have HRX : Hid (∀ W, Below J w3 W → ∀ i, i < n → ∃ b1 off1 b2 off2, va = some ⟨b1, off1, none⟩ ∧ a = some ⟨b2, off2, none⟩ ∧ W.rangeAt b1 (off1 + i * 22) (plV (l.getD i p0)) ∧ W.rangeAt b2 (off2 + i * 22) (plV (l.getD i p0))) := fun W hW i hi => by
    obtain ⟨b1, off1, e1, _, e3⟩ := (HPJ.out W hW).at_ (by rw [HN.out]; omega)
    obtain ⟨b2, off2, f1, _, f3⟩ := (HPA.out W (HBJ.out W hW)).at_ (by rw [HN.out]; omega)
    exact ⟨b1, off1, b2, off2, e1, f1, e3 i (by rw [HN.out]; exact hi), f3 i (by rw [HN.out]; exact hi)⟩
  go_wp2_with fail
  go_loopg [12] n (fun g iv wr => ∃ i : Nat, i ≤ n ∧ g = n - i ∧ iv = .int .i64 i ∧ Hid (Below J w3 wr))
  case atStart => exact ⟨0, Nat.zero_le _, rfl, rfl, hid (Below.refl _ _)⟩
  case round =>
    obtain ⟨i, hi, hgi, rfl, HBr⟩ := hrel
    by_cases hlt : i < n
    · have hlti : (i : Int) < (n : Int) := by omega
      obtain ⟨b1, off1, b2, off2, hae, hdd, _⟩ := HRX.out wr HBr.out i hlt
      subst hae
      subst hdd
      obtain ⟨x, HXX⟩ : ∃ x, Hid (l.getD i p0 = x) := ⟨_, rfl⟩
      have hxm : x ∈ l := by
        rw [← HXX.out, List.getD_eq_getElem?_getD, List.getElem?_eq_getElem (by rw [HN.out]; exact hlt)]
        exact List.getElem_mem _
      have HX20 : Hid (x.id.length = 20) := HQ.out x hxm
      obtain ⟨R, HR⟩ : ∃ R, Hid (plV x = R) := ⟨_, rfl⟩
      have hi32 : (Tryd.prog.info? 32).map (·.size) = some R.length := by rw [← HR.out, plV_len x HX20.out]; exact Tryd.size32
      have hsm : ∀ w : World, (Op.equalIn 10000 32 (.agg R.toArray) (.agg R.toArray)).run Tryd.prog w = .ok true w := fun w => by rw [← HR.out]; exact eq32 x HX20.out w
      have HBd : Hid (Below J w3 wr.drew) := hid (below_drewH HBr.out 1)
      have HQd : Hid (Q3 b1 (off1 + i * 22) b2 (off2 + i * 22) R wr.drew) := hid (by
        obtain ⟨b1', off1', b2', off2', e1, e2, e3, e4⟩ := HRX.out wr.drew HBd.out i hlt
        cases e1
        cases e2
        rw [HXX.out, HR.out] at e3 e4
        exact ⟨e3, e4⟩)
      clear hxm
      go_wp2_with fail
      refine wp_region_held_drew (S := Q3 b1 (off1 + i * 22) b2 (off2 + i * 22) R) (by kernel_rfl) (by exact HQd.out) (fun hHeld => ?_)
      generalize wr.drew = u0 at hHeld HBd HQd ⊢
      clear HQd
      refine takeL (i := 0) (v := ?_) rfl (by kernel_rfl) (by kernel_rfl) (by kernel_rfl) (fun _ _ _ h => h) (Or.inl ⟨by rfl, ?_⟩) hHeld ?_
      rotate_left
      · rintro w' ⟨r1, r2⟩; go_simp; rfl
      try simp only [Act.put, List.setIfInBounds_toArray, List.set_cons_zero, List.set_cons_succ]
      refine takeL (i := 1) (v := ?_) rfl (by kernel_rfl) (by kernel_rfl) (by kernel_rfl) (fun _ _ _ h => h) (Or.inl ⟨by rfl, ?_⟩) hHeld ?_
      rotate_left
      · rintro w' ⟨r1, r2⟩; go_simp; rfl
      try simp only [Act.put, List.setIfInBounds_toArray, List.set_cons_zero, List.set_cons_succ]
      refine takeL (i := 2) (v := ?_) rfl (by kernel_rfl) (by kernel_rfl) (by kernel_rfl) (fun _ _ _ h => h) (Or.inl ⟨by rfl, ?_⟩) hHeld ?_
      rotate_left
      · rintro w' ⟨r1, r2⟩; go_simp; rfl
      try simp only [Act.put, List.setIfInBounds_toArray, List.set_cons_zero, List.set_cons_succ]
      refine takeL (i := 3) (v := .agg R.toArray) rfl (by kernel_rfl) (by kernel_rfl) (by kernel_rfl) (fun _ _ _ h => h) (yieldsIf_load_mid (by kernel_rfl) 32 _ rfl b1 (off1 + i * 22) (by rfl) R _ (fun w' h => h.r1) Tryd.underlying32 rfl hi32) hHeld ?_
      try simp only [Act.put, List.setIfInBounds_toArray, List.set_cons_zero, List.set_cons_succ]
      refine takeL (i := 4) (v := ?_) rfl (by kernel_rfl) (by kernel_rfl) (by kernel_rfl) (fun _ _ _ h => h) (Or.inl ⟨by rfl, ?_⟩) hHeld ?_
      rotate_left
      · rintro w' ⟨r1, r2⟩; go_simp; rfl
      try simp only [Act.put, List.setIfInBounds_toArray, List.set_cons_zero, List.set_cons_succ]
      refine takeL (i := 5) (v := ?_) rfl (by kernel_rfl) (by kernel_rfl) (by kernel_rfl) (fun _ _ _ h => h) (Or.inl ⟨by rfl, ?_⟩) hHeld ?_
      rotate_left
      · rintro w' ⟨r1, r2⟩; go_simp; rfl
      try simp only [Act.put, List.setIfInBounds_toArray, List.set_cons_zero, List.set_cons_succ]
      refine takeL (i := 6) (v := ?_) rfl (by kernel_rfl) (by kernel_rfl) (by kernel_rfl) (fun _ _ _ h => h) (Or.inl ⟨by rfl, ?_⟩) hHeld ?_
      rotate_left
      · rintro w' ⟨r1, r2⟩; go_simp; rfl
      try simp only [Act.put, List.setIfInBounds_toArray, List.set_cons_zero, List.set_cons_succ]
      refine takeL (i := 7) (v := .agg R.toArray) rfl (by kernel_rfl) (by kernel_rfl) (by kernel_rfl) (fun _ _ _ h => h) (yieldsIf_load_mid (by kernel_rfl) 32 _ rfl b2 (off2 + i * 22) (by rfl) R _ (fun w' h => h.r2) Tryd.underlying32 rfl hi32) hHeld ?_
      try simp only [Act.put, List.setIfInBounds_toArray, List.set_cons_zero, List.set_cons_succ]
      refine takeL (i := 8) (v := .bool false) rfl (by kernel_rfl) (by kernel_rfl) (by kernel_rfl) (fun _ _ _ h => h) (Or.inl ⟨by rfl, ?_⟩) hHeld ?_
      · rintro w' ⟨r1, r2⟩; go_simp; try rfl
      try simp only [Act.put, List.setIfInBounds_toArray, List.set_cons_zero, List.set_cons_succ]
      refine wpAnyH_done (by kernel_rfl) ?_ _
      clear hHeld hsm
      go_wp2
      go_roundg (n - (i + 1))
      case measure => omega
      case rel => exact ⟨i + 1, by omega, rfl, by go_num, HBd⟩
    · have hlti : ¬ (i : Int) < (n : Int) := by omega
      have hJr : J ≤ wr.heap.size := by have := HBr.out.size; rw [HJ.out] at this; exact this
      go_wp2_with fail
      refine (C5.out wr (HBJ.out _ HBr.out)).mono ?_
      rintro ev w4 ⟨hb4, aq, cq, rfl, hpq⟩
      have HB4 : Hid (Below J w3 w4) := hid (HBr.out.trans (hb4.mono hJr))
      have HPQ : Hid (Pp w4 aq cq l) := hpq
      have RS4 : Hid (w4.rangeAt G 0 SU) := hid (HSS.out _ (HBJ.out _ HB4.out))
      have hJ4 : J ≤ w4.heap.size := Nat.le_trans hJr hb4.size
      clear hb4 hpq
      go_wp2_with (first
        | refine wpList_load_mid rfl 24 _ rfl G 0 rfl SU _ RS4.out Tryd.underlying24 rfl hiS ?_
        | fail)
      refine (C6.out w4 aq cq HPQ.out).mono ?_
      rintro ev w5 ⟨hb5, ay, cy, rfl, hs5⟩
      have HB5 : Hid (Below J w3 w5) := hid (HB4.out.trans (hb5.mono hJ4))
      have HY5 : Hid (Sl w5 ay cy X) := hs5
      have hJ5 : J ≤ w5.heap.size := Nat.le_trans hJ4 hb5.size
      clear hb5 hs5 HPQ RS4 HB4
      go_wp2_with fail
      refine (C7.out w5 ax ay cx cy (HXJ.out _ HB5.out) HY5.out).mono ?_
      rintro ev w6 ⟨rfl, hb6⟩
      have HB6 : Hid (Below J w3 w6) := hid (HB5.out.trans (hb6.mono hJ5))
      have hJ6 : J ≤ w6.heap.size := Nat.le_trans hJ5 hb6.size
      clear hb6 HB5 HY5
      go_wp2_with fail
      refine (CT.out w6 (HBJ.out _ HB6.out)).mono ?_
      rintro ev w7 ⟨rfl, hb7⟩
      have HB7 : Hid (Below J w3 w7) := hid (HB6.out.trans (hb7.mono hJ6))
      have hJ7 : J ≤ w7.heap.size := Nat.le_trans hJ6 hb7.size
      have RY7 : Hid (w7.rangeAt (G + 1) 0 Y) := hid (HYY.out _ (HBJ.out _ HB7.out))
      clear hb7 HB6
      go_wp2_with (first
        | refine wpList_load_mid rfl 24 _ rfl (G + 1) 0 rfl Y _ RY7.out Tryd.underlying24 rfl hiY ?_
        | fail)
      refine (C9.out w7 (HBJ.out _ HB7.out)).mono ?_
      rintro ev w8 ⟨rfl, hb8⟩
      have HB8 : Hid (Below J w3 w8) := hid (HB7.out.trans (hb8.mono hJ7))
      have hJ8 : J ≤ w8.heap.size := Nat.le_trans hJ7 hb8.size
      have RY8 : Hid (w8.rangeAt (G + 1) 0 Y) := hid (HYY.out _ (HBJ.out _ HB8.out))
      clear hb8 HB7 RY7
      rcases HER.out with h0 | ⟨h42, hnil⟩
      · subst h0
        have C9y : Hid (Calls Tryd.prog 9 #[.slice ax xl cx, .agg Y.toArray] w8 fun e w' => e = .returned (.bool true) ∧ Below w8.heap.size w8 w') := hid (by
          have := C9x.out w8 ax cx y (HBJ.out _ HB8.out) (HXJ.out _ HB8.out) HYL.out.1 HYL.out.2
          rw [HY.out] at this
          exact this)
        go_wp2_with (first
          | refine wpList_load_mid rfl 24 _ rfl (G + 1) 0 rfl Y _ RY8.out Tryd.underlying24 rfl hiY ?_
          | fail)
        refine C9y.out.mono ?_
        rintro ev w9 ⟨rfl, hb9⟩
        have HB9 : Hid (Below J w3 w9) := hid (HB8.out.trans (hb9.mono hJ8))
        clear hb9 RY8 HB8 C9y
        go_wp2_with fail
        go_loopg [18, 19] n (fun g wv iv wr => ∃ i : Nat, i ≤ n ∧ g = n - i ∧ iv = .int .i64 i ∧ wv = .bool true ∧ Hid (Below J w3 wr))
        case atStart => exact ⟨0, Nat.zero_le _, rfl, rfl, rfl, HB9⟩
        case round =>
          obtain ⟨i, hi, hgi, rfl, rfl, HBr⟩ := hrel
          by_cases hlt : i < n
          · have hlti : (i : Int) < (n : Int) := by omega
            obtain ⟨b1, off1, b2, off2, hae, hdd, _, hrg⟩ := HRX.out wr HBr.out i hlt
            subst hae
            subst hdd
            obtain ⟨x, HXX⟩ : ∃ x, Hid (l.getD i p0 = x) := ⟨_, rfl⟩
            have hxm : x ∈ l := by
              rw [← HXX.out, List.getD_eq_getElem?_getD, List.getElem?_eq_getElem (by rw [HN.out]; exact hlt)]
              exact List.getElem_mem _
            have HX20 : Hid (x.id.length = 20 ∧ IsB x.id) := ⟨(HWP.out x hxm).1, (HWP.out x hxm).2.1⟩
            obtain ⟨RI, HRI⟩ : ∃ R, Hid (row .u8 x.id = R) := ⟨_, rfl⟩
            have hi24 : (Tryd.prog.info? 24).map (·.size) = some RI.length := by rw [← HRI.out, row_len, HX20.out.1]; exact Tryd.size24'
            have RR : Hid (wr.rangeAt b2 (off2 + i * 22) RI) := hid (by rw [← HRI.out, ← HXX.out]; exact pl_id hrg)
            have C9z : Hid (Calls Tryd.prog 9 #[.slice ax xl cx, .agg RI.toArray] wr fun e w' => e = .returned (.bool true) ∧ Below wr.heap.size wr w') := hid (by
              have := C9x.out wr ax cx x.id (HBJ.out _ HBr.out) (HXJ.out _ HBr.out) HX20.out.1 HX20.out.2
              rw [HRI.out] at this
              exact this)
            have hJr2 : J ≤ wr.heap.size := by have := HBr.out.size; rw [HJ.out] at this; exact this
            clear hxm hrg
            go_wp2_with (first
              | refine wpList_load_mid rfl 24 _ rfl b2 (off2 + i * 22) rfl RI _ RR.out Tryd.underlying24 rfl hi24 ?_
              | fail)
            refine C9z.out.mono ?_
            rintro ev w10 ⟨rfl, hb10⟩
            have HB10 : Hid (Below J w3 w10) := hid (HBr.out.trans (hb10.mono hJr2))
            clear hb10
            go_wp2
            go_roundg (n - (i + 1))
            case measure => omega
            case rel => exact ⟨i + 1, by omega, rfl, by go_num, rfl, HB10⟩
          · have hlti : ¬ (i : Int) < (n : Int) := by omega
            go_wp2
            go_ret
            exact ⟨rfl, by rw [HG.out]; exact HBW.out _ (HBJ.out _ HBr.out)⟩
      · subst h42
        have hxl0 : xl = 0 := by rw [← HXL.out, hnil]; rfl
        subst hxl0
        go_wp2
        go_ret
        exact ⟨rfl, by rw [HG.out]; exact HBW.out _ (HBJ.out _ HB8.out)⟩
end Go.Proofs.YtdfihfmmfmoabaaDoor
