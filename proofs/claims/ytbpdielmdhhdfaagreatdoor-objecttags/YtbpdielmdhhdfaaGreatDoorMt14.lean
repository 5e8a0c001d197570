import Derived.Test.YtbpdielmdhhdfaaGreatDoorMt13
/- Package object: lines, letters; a tag's name. -/
namespace Go.Proofs.YtbpdielmdhhdfaaGreatDoor
open Go.RowKit
set_option linter.unusedVariables false
set_option linter.unusedSimpArgs false
/-- Their bytes. -/
def bl (xs : List ByteArray) : List (List UInt8) := xs.map fun x => x.data.toList
set_option maxRecDepth 20000 in
theorem line_any (bk o c : Nat) (xs : List ByteArray) (w : World) (hcells : ∀ (j : Nat) x, xs[j]? = some x → w.cell? ⟨bk, o + j, none⟩ = some (.string x)) (hbk : bk < w.heap.size) (hN : xs.length ≤ 1000) (hcap : xs.length ≤ c)
    (hlen : (Lib.join (bl xs) [32]).length ≤ 1000000) :
    Calls Tryz.prog 54 #[.slice (some ⟨bk, o, none⟩) xs.length c] w fun e w' => e = .returned (.string ⟨(Lib.join (bl xs) [32] ++ [10]).toArray⟩) ∧ Below w.heap.size w w' := by
  obtain ⟨n, HN⟩ : ∃ n, Hid (xs.length = n) := ⟨_, rfl⟩
  obtain ⟨S, HS⟩ : ∃ S : ByteArray, Hid (S = ⟨(Lib.join (bl xs) [32]).toArray⟩) := ⟨_, rfl⟩
  have HJ : Hid (Calls Tryz.prog 46 #[.slice (some ⟨bk, o, none⟩) n c] w fun e w' => e = .returned (.string S) ∧ Below w.heap.size w w') := hid (by
    rw [← HN.out, HS.out]
    exact words_any bk o c xs w hcells hbk hN hcap hlen)
  have hS : S.size ≤ 1000000 := by rw [HS.out]; simpa [ByteArray.size] using hlen
  have hS1 : ¬ 9223372036854775807 < S.size + 1 := by omega
  have hS2 : ¬ 9223372036854775807 ≤ S.size := by omega
  have h10 : (⟨#[10]⟩ : ByteArray).size = 1 := rfl
  have HE : Hid (S ++ ⟨#[10]⟩ = ⟨(Lib.join (bl xs) [32] ++ [10]).toArray⟩) := hid (by
    rw [HS.out, show (⟨#[10]⟩ : ByteArray) = ⟨[10].toArray⟩ from rfl]
    exact str_app _ _)
  rw [HN.out]
  clear hcells hlen
  go_enter Tryz.func54, Tryz.ntmps54
  go_wp2_with fail
  refine HJ.out.mono ?_
  rintro e w' ⟨rfl, hb⟩
  go_wp2
  go_ret
  exact ⟨(show _ = Ending.returned (.string (S ++ ⟨#[10]⟩)) from rfl).trans (by rw [HE.out]), hb⟩
set_option maxRecDepth 20000 in
theorem line_none (w : World) : Calls Tryz.prog 54 #[.slice none 0 0] w fun e w' => e = .returned (.string ⟨#[10]⟩) ∧ w' = w := by
  have HW : Hid (Calls Tryz.prog 46 #[.slice none 0 0] w fun e w' => e = .returned (.string ⟨#[]⟩) ∧ w' = w) := hid (by
    go_enter Tryz.func46, Tryz.ntmps46
    go_wp2_with fail
    refine (Tryz.strings_Join_none none 0 ⟨#[32]⟩ w).mono ?_
    rintro e w' ⟨rfl, rfl⟩
    go_wp2
    go_ret
    exact ⟨rfl, rfl⟩)
  have h10 : (⟨#[10]⟩ : ByteArray).size = 1 := rfl
  have h0 : (⟨#[]⟩ : ByteArray).size = 0 := rfl
  go_enter Tryz.func54, Tryz.ntmps54
  go_wp2_with fail
  refine HW.out.mono ?_
  rintro e w' ⟨rfl, rfl⟩
  go_wp2
  go_ret
  exact ⟨rfl, rfl⟩
/-- What 'letter' gives: bytes at the head of a new block. -/
def PostL (l : List UInt8) (w : World) (e : Ending) (w' : World) : Prop := Below w.heap.size w w' ∧ ∃ g cap : Nat, e = .returned (.slice (some ⟨g, 0, none⟩) l.length cap) ∧ w.heap.size ≤ g ∧ Mk w' g cap (nums l)
set_option maxRecDepth 20000 in
theorem letter_any (msg : List UInt8) (hm : msg.length ≤ 100000) (bk o c : Nat) (xs : List ByteArray) (w : World) (hcells : ∀ (j : Nat) x, xs[j]? = some x → w.cell? ⟨bk, o + j, none⟩ = some (.string x)) (hbk : bk < w.heap.size) (hN : xs.length ≤ 1000) (hcap : xs.length ≤ c)
    (hlen : (Lib.join (bl xs) []).length ≤ 100000) :
    Calls Tryz.prog 57 #[.string ⟨msg.toArray⟩, .slice (some ⟨bk, o, none⟩) xs.length c] w (PostL (Lib.join (bl xs) [] ++ 10 :: msg) w) := by
  obtain ⟨n, HN⟩ : ∃ n, Hid (xs.length = n) := ⟨_, rfl⟩
  obtain ⟨S, HS⟩ : ∃ S : ByteArray, Hid (S = ⟨(Lib.join (bl xs) []).toArray⟩) := ⟨_, rfl⟩
  obtain ⟨M, HM⟩ : ∃ S : ByteArray, Hid (S = ⟨msg.toArray⟩) := ⟨_, rfl⟩
  have HJ : Hid (Calls Tryz.prog 94 #[.slice (some ⟨bk, o, none⟩) n c, .string ⟨#[]⟩] w fun e w' => e = .returned (.string S) ∧ Below w.heap.size w w') := hid (by
    rw [← HN.out, HS.out]
    exact Tryz.strings_Join bk o c xs ⟨#[]⟩ w hcells hbk (by omega) hcap (Nat.le_trans hlen (by decide)))
  have hS : S.size ≤ 100000 := by rw [HS.out]; simpa [ByteArray.size] using hlen
  have hM : M.size ≤ 100000 := by rw [HM.out]; simpa [ByteArray.size] using hm
  have h10 : (⟨#[10]⟩ : ByteArray).size = 1 := rfl
  have hS1 : ¬ 9223372036854775807 < S.size + 1 := by omega
  have hS2 : ¬ 9223372036854775807 ≤ S.size := by omega
  have hSA : (S ++ ⟨#[10]⟩ : ByteArray).size = S.size + 1 := by rw [ByteArray.size_append, h10]
  have hS3 : ¬ 9223372036854775807 < S.size + 1 + M.size := by omega
  obtain ⟨R, HR⟩ : ∃ R : ByteArray, S ++ ⟨#[10]⟩ ++ M = R := ⟨_, rfl⟩
  have HRE : Hid (R = ⟨(Lib.join (bl xs) [] ++ 10 :: msg).toArray⟩) := hid (by
    rw [← HR, HS.out, HM.out, show (⟨#[10]⟩ : ByteArray) = ⟨[10].toArray⟩ from rfl, str_app, str_app]
    simp)
  rw [HN.out, ← HM.out]
  clear hcells hlen
  go_enter Tryz.func57, Tryz.ntmps57
  go_wp2_with fail
  refine HJ.out.mono ?_
  rintro e w1 ⟨rfl, hb⟩
  have HB : Hid _ := hb
  clear hb
  obtain ⟨c2, w2, hr2, hm2, hb2, hs2⟩ := conv_mk (Lib.join (bl xs) [] ++ 10 :: msg) w1
  rw [← HRE.out] at hr2
  have HM2 : Hid _ := hm2
  have HB2 : Hid (Below w.heap.size w w2) := HB.out.trans (hb2.mono HB.out.size)
  clear hm2 hb2
  obtain ⟨L, HL⟩ : ∃ L, Hid ((Lib.join (bl xs) [] ++ 10 :: msg).length = L) := ⟨_, rfl⟩
  rw [HL.out] at hr2
  go_wp2_with (go_at_call 54; refine (line_none _).mono ?_; rintro ev w' ⟨rfl, rfl⟩)
  go_ret
  refine ⟨HB2.out, _, c2, ?_, HB.out.size, HM2.out⟩
  rw [HL.out]
  rfl
end Go.Proofs.YtbpdielmdhhdfaaGreatDoor
/- Package object: a tag's name; which tags can be written. -/
namespace Go.Proofs.YtbpdielmdhhdfaaGreatDoor
open Go.RowKit
set_option linter.unusedVariables false
set_option linter.unusedSimpArgs false
/-- 3.5: the signs of a tag's name. -/
def signs : List UInt8 := [97, 98, 99, 100, 101, 102, 103, 104, 105, 106, 107, 108, 109, 110, 111, 112, 113, 114, 115, 116, 117, 118, 119, 120, 121, 122, 65, 66, 67, 68, 69, 70, 71, 72, 73, 74, 75, 76, 77, 78, 79, 80, 81, 82, 83, 84, 85, 86, 87, 88, 89, 90, 48, 49, 50, 51, 52, 53, 54, 55, 56, 57, 46, 95, 45, 47]
/-- 3.5: a tag's name. -/
def okN (s : List UInt8) : Prop := 1 ≤ s.length ∧ s.length ≤ 60 ∧ ∀ x ∈ s, x ∈ signs
theorem dropWhile_nil {p : UInt8 → Bool} : ∀ {l : List UInt8}, l.dropWhile p = [] ↔ ∀ x ∈ l, p x = true
  | [] => by simp
  | b :: l => by
    rw [List.dropWhile_cons]
    by_cases hb : p b = true
    · rw [if_pos hb, dropWhile_nil]
      simp [hb]
    · rw [if_neg hb]
      simp [hb]
theorem mem_dropWhile {p : UInt8 → Bool} {x : UInt8} {l : List UInt8} (h : x ∈ l.dropWhile p) : x ∈ l := (List.dropWhile_sublist p).subset h
theorem keep_dropWhile {p : UInt8 → Bool} {x : UInt8} : ∀ {l : List UInt8}, x ∈ l → p x = false → x ∈ l.dropWhile p
  | b :: l, h, hp => by
    rw [List.dropWhile_cons]
    by_cases hb : p b = true
    · rw [if_pos hb]
      have hne : x ≠ b := fun e => by rw [e, hb] at hp; cases hp
      rcases List.mem_cons.1 h with h | h
      · exact absurd h hne
      · exact keep_dropWhile h hp
    · rw [if_neg hb]
      exact h
theorem trim_nil (s cs : List UInt8) : Lib.trimS s cs = [] ↔ ∀ x ∈ s, x ∈ cs := by
  unfold Lib.trimS Lib.trimLeftS Lib.trimRightS
  rw [dropWhile_nil]
  constructor
  · intro h x hx
    by_cases hc : x ∈ cs
    · exact hc
    · have h2 : x ∈ s.reverse.dropWhile (cs.contains ·) := by
        exact keep_dropWhile (by simpa using hx) (by simpa using hc)
      have := h x (by simpa using h2)
      simpa using this
  · intro h x hx
    have hx' : x ∈ s := by
      have := mem_dropWhile (List.mem_reverse.1 hx)
      simpa using this
    simpa using h x hx'
theorem signs_small : ∀ x ∈ signs, x.toNat < 128 := by decide
set_option maxRecDepth 20000 in
theorem isTagName_any (s : List UInt8) (hs : s.length ≤ 1000000) (w : World) : Calls Tryz.prog 110 #[.string ⟨s.toArray⟩] w fun e w' => BIs (okN s) e ∧ Below w.heap.size w w' := by
  obtain ⟨S, HS⟩ : ∃ S : ByteArray, Hid (S = ⟨s.toArray⟩) := ⟨_, rfl⟩
  have hsz : S.size = s.length := by rw [HS.out]; simp [ByteArray.size]
  obtain ⟨T, HT⟩ : ∃ S : ByteArray, Hid (S = ⟨(Lib.trimS s signs).toArray⟩) := ⟨_, rfl⟩
  have HTR : Hid (∀ w, Calls Tryz.prog 144 #[.string S, .string ⟨signs.toArray⟩] w fun e w' => e = .returned (.string T) ∧ Below w.heap.size w w') := fun w => by
    rw [HT.out, HS.out]
    exact Any.strings_Trim_laid Tryz.lays160 info258 ⟨s.toArray⟩ ⟨signs.toArray⟩ w (by simp [ByteArray.size]; omega) (by decide) (fun j b hb => signs_small b (List.mem_of_getElem? (by simpa using hb)))
  have HEQ : Hid (T.toList.isEmpty = true ↔ ∀ x ∈ s, x ∈ signs) := hid (by
    rw [HT.out, Lib.toList_data, ← trim_nil]
    simp)
  have hemp : S.toList.isEmpty = decide (s.length = 0) := by
    rw [HS.out, Lib.toList_data]
    cases s <;> simp
  rw [← HS.out]
  by_cases h0 : s.length = 0
  · have HOK : Hid (¬ okN s) := fun h => by have := h.1; omega
    rw [decide_eq_true h0] at hemp
    go_enter Tryz.func110, Tryz.ntmps110
    go_wp2
    go_ret
    exact ⟨bis_false HOK.out, Below.refl _ _⟩
  · rw [decide_eq_false h0] at hemp
    by_cases h : s.length ≤ 60
    · have hi : ¬ (60 : Int) < (S.size : Int) := by omega
      have h60 : Hid (s.length ≤ 60) := h
      have h1 : Hid (1 ≤ s.length) := hid (by omega)
      rw [hsz] at hi
      go_enter Tryz.func110, Tryz.ntmps110
      go_wp2_with (go_at_call 144; refine (HTR.out _).mono ?_; rintro ev w1 ⟨rfl, hb1⟩)
      go_ret
      refine ⟨⟨T.toList.isEmpty, rfl, ?_⟩, hb1⟩
      rw [HEQ.out]
      exact ⟨fun h3 => ⟨h1.out, h60.out, h3⟩, fun h3 => h3.2.2⟩
    · have hi : (60 : Int) < (S.size : Int) := by omega
      have HOK : Hid (¬ okN s) := fun h2 => h h2.2.1
      rw [hsz] at hi
      go_enter Tryz.func110, Tryz.ntmps110
      go_wp2
      go_ret
      exact ⟨bis_false HOK.out, Below.refl _ _⟩
/-- A tag. -/
structure Tg where
  id : List Int
  kind : Int
  name : List UInt8
  per : Per
  msg : List UInt8
/-- As cells. -/
def tgV (t : Tg) : List Value := row .u8 t.id ++ [.int .i64 t.kind, .string ⟨t.name.toArray⟩, .string ⟨t.per.name.toArray⟩, .string ⟨t.per.mail.toArray⟩, .int .i64 t.per.time, .int .i64 t.per.zone, .string ⟨t.msg.toArray⟩]
/-- 3.5: which tags can be written. -/
def okG (t : Tg) : Prop := ¬ (kN t.kind).toList.isEmpty = true ∧ okN t.name ∧ okP t.per ∧ isMsg t.msg = true
/-- A tag's box. -/
structure BoxG (G : Nat) (t : Tg) (W : World) : Prop where
  id : W.rangeAt G 0 (row .u8 t.id)
  c20 : W.cell? ⟨G, 20, none⟩ = some (.int .i64 t.kind)
  c21 : W.cell? ⟨G, 21, none⟩ = some (.string ⟨t.name.toArray⟩)
  c22 : W.cell? ⟨G, 22, none⟩ = some (.string ⟨t.per.name.toArray⟩)
  c23 : W.cell? ⟨G, 23, none⟩ = some (.string ⟨t.per.mail.toArray⟩)
  c24 : W.cell? ⟨G, 24, none⟩ = some (.int .i64 t.per.time)
  c25 : W.cell? ⟨G, 25, none⟩ = some (.int .i64 t.per.zone)
  c26 : W.cell? ⟨G, 26, none⟩ = some (.string ⟨t.msg.toArray⟩)
theorem BoxG.below {G : Nat} {t : Tg} {W W' : World} (h : BoxG G t W) (hG : G < W.heap.size) (hb : Below W.heap.size W W') : BoxG G t W' :=
  ⟨fun j v hv => (hb.cell (p := ⟨G, 0 + j, none⟩) hG).trans (h.id j v hv), (hb.cell (p := ⟨G, 20, none⟩) hG).trans h.c20, (hb.cell (p := ⟨G, 21, none⟩) hG).trans h.c21, (hb.cell (p := ⟨G, 22, none⟩) hG).trans h.c22, (hb.cell (p := ⟨G, 23, none⟩) hG).trans h.c23, (hb.cell (p := ⟨G, 24, none⟩) hG).trans h.c24, (hb.cell (p := ⟨G, 25, none⟩) hG).trans h.c25, (hb.cell (p := ⟨G, 26, none⟩) hG).trans h.c26⟩
theorem tgV_len (t : Tg) (h : t.id.length = 20) : (tgV t).length = 27 := by simp [tgV, row_len, h]
theorem box_alloc (t : Tg) (h : t.id.length = 20) (w : World) (ty : TypeId) : BoxG w.heap.size t (w.alloc (.cells (tgV t).toArray ty)) := by
  have hr := range_row (heap_alloc_new w (.cells (tgV t).toArray ty))
  have hl : (row .u8 t.id).length = 20 := by rw [row_len]; exact h
  have g : ∀ (i : Nat) (v : Value), (tgV t)[i]? = some v → (w.alloc (.cells (tgV t).toArray ty)).cell? ⟨w.heap.size, i, none⟩ = some v := fun i v hv => by
    have := hr i v hv
    rwa [Nat.zero_add] at this
  refine ⟨fun j v hv => ?_, g 20 _ ?_, g 21 _ ?_, g 22 _ ?_, g 23 _ ?_, g 24 _ ?_, g 25 _ ?_, g 26 _ ?_⟩
  · refine hr j v ?_
    unfold tgV
    rw [List.getElem?_append_left (List.getElem?_eq_some_iff.1 hv).1]
    exact hv
  all_goals
    unfold tgV
    rw [List.getElem?_append_right (by omega), hl]
    rfl
set_option maxRecDepth 20000 in
set_option maxHeartbeats 1000000 in
theorem isTag_any (t : Tg) (hid20 : t.id.length = 20) (h1 : t.name.length ≤ 1000000) (h4 : t.msg.length ≤ 1000000) (w : World) :
    Calls Tryz.prog 64 #[.agg (tgV t).toArray] w fun e w' => BIs (okG t) e ∧ Below w.heap.size w w' := by
  obtain ⟨A, HA⟩ : ∃ A : Array Value, Hid ((tgV t).toArray = A) := ⟨_, rfl⟩
  have hsz : A.size = 27 := by rw [← HA.out, List.size_toArray]; exact tgV_len t hid20
  obtain ⟨G, HG⟩ : ∃ G, Hid (w.heap.size = G) := ⟨_, rfl⟩
  obtain ⟨w0, HW0⟩ : ∃ w0, Hid (w.alloc (.cells A 71) = w0) := ⟨_, rfl⟩
  have HX0 : Hid (BoxG G t w0) := hid (by rw [← HW0.out, ← HG.out, ← HA.out]; exact box_alloc t hid20 w 71)
  have HB0 : Hid (Below G w w0) := hid (by rw [← HW0.out, ← HG.out]; exact (Below.refl _ w).alloc (Nat.le_refl _) _)
  have hs0 : G < w0.heap.size := by rw [← HW0.out, ← HG.out]; simp
  obtain ⟨K, HK⟩ : ∃ S : ByteArray, Hid (kN t.kind = S) := ⟨_, rfl⟩
  have HKN : Hid (∀ w, Calls Tryz.prog 65 #[.int .i64 t.kind] w fun e w' => e = .returned (.string K) ∧ w' = w) := fun w => by rw [← HK.out]; exact kindName_any t.kind w
  obtain ⟨kd, HKD⟩ : ∃ kd, Hid (t.kind = kd) := ⟨_, rfl⟩
  obtain ⟨N, HNN⟩ : ∃ S : ByteArray, Hid (⟨t.name.toArray⟩ = S) := ⟨_, rfl⟩
  obtain ⟨M, HMM⟩ : ∃ S : ByteArray, Hid (⟨t.msg.toArray⟩ = S) := ⟨_, rfl⟩
  obtain ⟨P1, HP1⟩ : ∃ S : ByteArray, Hid (⟨t.per.name.toArray⟩ = S) := ⟨_, rfl⟩
  obtain ⟨P2, HP2⟩ : ∃ S : ByteArray, Hid (⟨t.per.mail.toArray⟩ = S) := ⟨_, rfl⟩
  obtain ⟨tm, HTM⟩ : ∃ x, Hid (t.per.time = x) := ⟨_, rfl⟩
  obtain ⟨zn, HZN⟩ : ∃ x, Hid (t.per.zone = x) := ⟨_, rfl⟩
  have HTN : Hid (∀ w, Calls Tryz.prog 110 #[.string N] w fun e w' => BIs (okN t.name) e ∧ Below w.heap.size w w') := fun w => by rw [← HNN.out]; exact isTagName_any t.name h1 w
  have HPE : Hid (∀ w, Calls Tryz.prog 100 #[.agg #[.string P1, .string P2, .int .i64 tm, .int .i64 zn]] w fun e w' => BIs (okP t.per) e ∧ Below w.heap.size w w') := fun w => by
    rw [← HP1.out, ← HP2.out, ← HTM.out, ← HZN.out]; exact isPerson_any t.per w
  have HMS : Hid (∀ w, Calls Tryz.prog 101 #[.string M] w fun e w' => e = .returned (.bool (isMsg t.msg)) ∧ w' = w) := fun w => by rw [← HMM.out]; exact isMessage_any t.msg w h4
  have HC : Hid (∀ W, Below w0.heap.size w0 W → W.cell? ⟨G, 20, none⟩ = some (.int .i64 kd) ∧ W.cell? ⟨G, 21, none⟩ = some (.string N) ∧ W.cell? ⟨G, 22, none⟩ = some (.string P1) ∧ W.cell? ⟨G, 23, none⟩ = some (.string P2) ∧ W.cell? ⟨G, 24, none⟩ = some (.int .i64 tm) ∧ W.cell? ⟨G, 25, none⟩ = some (.int .i64 zn) ∧ W.cell? ⟨G, 26, none⟩ = some (.string M)) := fun W hW => by
    have hx := HX0.out.below hs0 hW
    rw [← HKD.out, ← HNN.out, ← HP1.out, ← HP2.out, ← HTM.out, ← HZN.out, ← HMM.out]
    exact ⟨hx.c20, hx.c21, hx.c22, hx.c23, hx.c24, hx.c25, hx.c26⟩
  rw [HKD.out] at HKN
  have HBE : Hid (∀ W, Below w0.heap.size w0 W → Below w.heap.size w W) := fun W hW => by rw [HG.out]; exact HB0.out.trans (hW.mono (Nat.le_of_lt hs0))
  obtain ⟨ms, HMSB⟩ : ∃ b : Bool, Hid (isMsg t.msg = b) := ⟨_, rfl⟩
  rw [HMSB.out] at HMS
  have hA20 : A[20]'(by omega) = .int .i64 kd := by
    have hr := cell_of_row w0 G 20 A 71 (0, 0) (by rw [← HW0.out, ← HG.out]; exact heap_alloc_new w _)
    rw [(HC.out w0 (Below.refl _ _)).1, Array.getElem?_eq_getElem (by omega)] at hr
    exact (Option.some.inj hr).symm
  rw [HA.out]
  obtain ⟨c20, c21, c22, c23, c24, c25, c26⟩ := HC.out w0 (Below.refl _ _)
  by_cases hk : K.toList.isEmpty = true
  · have HOK : Hid (¬ okG t) := fun h => h.1 (by rw [HK.out]; exact hk)
    go_enter Tryz.func64, Tryz.ntmps64
    go_wp2_with fail
    rw [HG.out, HW0.out]
    refine (HKN.out w0).mono ?_
    rintro ev w' ⟨rfl, rfl⟩
    go_wp2
    go_ret
    exact ⟨bis_false HOK.out, HBE.out _ (Below.refl _ _)⟩
  · have HKO : Hid (¬ (kN t.kind).toList.isEmpty = true) := hid (by rw [HK.out]; exact hk)
    have hk2 : K.toList.isEmpty = false := by simpa using hk
    go_enter Tryz.func64, Tryz.ntmps64
    go_wp2_with fail
    rw [HG.out, HW0.out]
    refine (HKN.out w0).mono ?_
    rintro ev w0' ⟨rfl, hw0⟩
    have hw0' := hw0.symm
    subst hw0'
    go_wp2_with fail
    refine (HTN.out w0).mono ?_
    rintro ev w1 ⟨hb, hb1⟩
    have HB1 : Hid _ := hb1
    clear hb1 c20 c21 c22 c23 c24 c25 c26
    obtain ⟨c20, c21, c22, c23, c24, c25, c26⟩ := HC.out w1 HB1.out
    rcases bis_or hb with ⟨hy1, rfl⟩ | ⟨hn1, rfl⟩
    · have HY1 : Hid (okN t.name) := hy1
      clear hy1 hb
      go_wp2_with fail
      refine (HPE.out w1).mono ?_
      rintro ev w2 ⟨hb, hb2⟩
      have HB2 : Hid (Below w0.heap.size w0 w2) := HB1.out.trans (hb2.mono HB1.out.size)
      clear hb2 c20 c21 c22 c23 c24 c25 c26
      obtain ⟨c20, c21, c22, c23, c24, c25, c26⟩ := HC.out w2 HB2.out
      rcases bis_or hb with ⟨hy2, rfl⟩ | ⟨hn2, rfl⟩
      · have HY2 : Hid (okP t.per) := hy2
        clear hy2 hb
        go_wp2_with fail
        refine (HMS.out w2).mono ?_
        rintro ev w' ⟨rfl, rfl⟩
        go_wp2
        go_ret
        refine ⟨⟨ms, rfl, ?_⟩, HBE.out _ HB2.out⟩
        rw [← HMSB.out]
        exact ⟨fun h => ⟨HKO.out, HY1.out, HY2.out, h⟩, fun h => h.2.2.2⟩
      · have HOK : Hid (¬ okG t) := fun h => hn2 h.2.2.1
        clear hn2 hb
        go_wp2
        go_ret
        exact ⟨bis_false HOK.out, HBE.out _ HB2.out⟩
    · have HOK : Hid (¬ okG t) := fun h => hn1 h.2.1
      clear hn1 hb
      go_wp2
      go_ret
      exact ⟨bis_false HOK.out, HBE.out _ HB1.out⟩
end Go.Proofs.YtbpdielmdhhdfaaGreatDoor
