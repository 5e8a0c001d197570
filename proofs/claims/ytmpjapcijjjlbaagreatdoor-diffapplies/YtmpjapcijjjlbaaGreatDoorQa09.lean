import Derived.Test.YtmpjapcijjjlbaaGreatDoorQa08
namespace Go.Proofs.YtmpjapcijjjlbaaGreatDoor
open Go.RowKit
set_option linter.unusedVariables false
set_option linter.unusedSimpArgs false
abbrev As := Nat × List Str
def ap1 (X : List Str) (s : As) (e : Ed) : Option As :=
  if e.1 = 2 then some (s.1, s.2 ++ [e.2]) else
  if s.1 < X.length ∧ X.getD s.1 [] = e.2 then some (s.1 + 1, if e.1 = 1 then s.2 else s.2 ++ [e.2]) else none
def apE (X : List Str) : List Ed → As → Option As
  | [], s => some s
  | e :: r, s => match ap1 X s e with
    | none => none
    | some t => apE X r t
theorem apE_app (X : List Str) : ∀ (a b : List Ed) (s : As), apE X (a ++ b) s = (apE X a s).bind (apE X b)
  | [], b, s => rfl
  | e :: a, b, s => by
    rw [List.cons_append, apE, apE]
    cases ap1 X s e with
    | none => rfl
    | some t => exact apE_app X a b t
theorem apE_snoc (X : List Str) (es : List Ed) (k : Nat) (s t : As) (e : Ed) (hk : k < es.length) (he : es.getD k (0, []) = e) (h : apE X (es.take k) s = some t) : apE X (es.take (k + 1)) s = ap1 X t e := by
  rw [take_snocG (0, []) es k hk, he, apE_app, h]
  simp only [Option.bind_some, apE]
  cases ap1 X t e <;> rfl
theorem apE_none (X : List Str) (es : List Ed) (k : Nat) (s : As) (h : apE X (es.take k) s = none) : apE X es s = none := by
  rw [← List.take_append_drop k es, apE_app, h]
  rfl
def apH (X : List Str) (s : As) (y : Gh) : Option As := if (X.length : Int) < y.1 then none else apE X y.2.2.2.2 (y.1.toNat, s.2 ++ (X.drop s.1).take (y.1.toNat - s.1))
def apL (X : List Str) : List Gh → As → Option As
  | [], s => some s
  | y :: r, s => match apH X s y with
    | none => none
    | some t => apL X r t
theorem apL_app (X : List Str) : ∀ (a b : List Gh) (s : As), apL X (a ++ b) s = (apL X a s).bind (apL X b)
  | [], b, s => rfl
  | e :: a, b, s => by
    rw [List.cons_append, apL, apL]
    cases apH X s e with
    | none => rfl
    | some t => exact apL_app X a b t
theorem apL_snoc (X : List Str) (l : List Gh) (k : Nat) (s t : As) (y : Gh) (hk : k < l.length) (he : l.getD k g0 = y) (h : apL X (l.take k) s = some t) : apL X (l.take (k + 1)) s = apH X t y := by
  rw [take_snocG g0 l k hk, he, apL_app, h]
  simp only [Option.bind_some, apL]
  cases apH X t y <;> rfl
theorem apL_none (X : List Str) (l : List Gh) (k : Nat) (s : As) (h : apL X (l.take k) s = none) : apL X l s = none := by
  rw [← List.take_append_drop k l, apL_app, h]
  rfl
def chP (X : List Str) (l : List Gh) : Option (List Str) := (apL X l (0, [])).map fun s => s.2 ++ X.drop s.1
def arL (L : List Str) : Prop := ∀ i, i + 1 < L.length → (L.getD i []).getLast? = some 10
theorem ap1_two {X : List Str} {s : As} {e : Ed} (h : e.1 = 2) : ap1 X s e = some (s.1, s.2 ++ [e.2]) := by rw [ap1, if_pos h]
theorem ap1_one {X : List Str} {s : As} {e : Ed} (h : e.1 = 1) (h1 : s.1 < X.length) (h2 : X.getD s.1 [] = e.2) : ap1 X s e = some (s.1 + 1, s.2) := by rw [ap1, if_neg (by omega), if_pos ⟨h1, h2⟩, if_pos h]
theorem ap1_zero {X : List Str} {s : As} {e : Ed} (h : e.1 = 0) (h1 : s.1 < X.length) (h2 : X.getD s.1 [] = e.2) : ap1 X s e = some (s.1 + 1, s.2 ++ [e.2]) := by rw [ap1, if_neg (by omega), if_pos ⟨h1, h2⟩, if_neg (by omega)]
theorem ap1_no {X : List Str} {s : As} {e : Ed} (h : e.1 ≠ 2) (h1 : ¬ (s.1 < X.length ∧ X.getD s.1 [] = e.2)) : ap1 X s e = none := by rw [ap1, if_neg h, if_neg h1]
set_option maxRecDepth 20000 in
theorem areLines_any {w : World} (a : Option Addr) (cap : Nat) (L : List Str) (hP : PS w a cap L) (hn : L.length ≤ 100000000) (hl : ∀ x ∈ L, x.length ≤ 10000000) :
    Calls Tryz.prog 40 #[.slice a L.length cap] w fun e w' => BIR (arL L) e ∧ Below w.heap.size w w' := by
  obtain ⟨n, HN⟩ : ∃ n, Hid (L.length = n) := ⟨_, rfl⟩
  obtain ⟨m, HM⟩ : ∃ m, Hid (n - 1 = m) := ⟨_, rfl⟩
  have hn6 : n ≤ 100000000 := by rw [← HN.out]; exact hn
  have hm6 : m ≤ 100000000 := by rw [← HM.out]; omega
  have hmx : max ((n : Int) - 1) 0 = (m : Int) := by rw [← HM.out]; omega
  have hwn : IntKind.i64.wrap ((n : Int) - 1) = (n : Int) - 1 := by rw [IntKind.wrap_i64]; omega
  have hcap : n ≤ cap := by rw [← HN.out]; exact hP.capl
  have hsl : ∀ W : World, (Instr.slice 40 (.slice a n cap) none (some (.int .i64 (m : Int))) none).run Tryz.prog W = .ok (.slice a m cap) W := fun W => sl24_to a n cap m (by have := HM.out; omega) W
  have HPS : Hid (∀ W, Below w.heap.size w W → PS W a cap L) := hid (fun W hW => hP.below hW)
  have HLL := hid hl
  have HFA : Hid (0 < n → ∃ b off, a = some ⟨b, off, none⟩) := hid (fun h0 => by
    obtain ⟨b, off, e1, _⟩ := hP.at_ (by rw [HN.out]; exact h0)
    exact ⟨b, off, e1⟩)
  rw [HN.out]
  clear hP hn hl
  go_enter Tryz.func40, Tryz.ntmps40
  go_wp2_with fail
  go_loopg [12] m (fun gg iv wr => ∃ i : Nat, i ≤ m ∧ gg = m - i ∧ iv = .int .i64 i ∧ Hid (Below w.heap.size w wr) ∧ Hid (∀ j, j < i → (L.getD j []).getLast? = some 10))
  case atStart => exact ⟨0, Nat.zero_le _, rfl, rfl, hid (Below.refl _ _), hid (fun j hj => by omega)⟩
  case round =>
    obtain ⟨i, hi, hkk, rfl, HB, HD⟩ := hrel
    by_cases hlt : i < m
    · have hlti : (i : Int) < (m : Int) := by omega
      obtain ⟨b, off, rfl⟩ := HFA.out (by have := HM.out; omega)
      have hil : i < L.length := by have := HN.out; have := HM.out; omega
      obtain ⟨t, HT⟩ : ∃ t, Hid (L.getD i [] = t) := ⟨_, rfl⟩
      obtain ⟨X, HX⟩ : ∃ X : ByteArray, Hid (⟨t.toArray⟩ = X) := ⟨_, hid rfl⟩
      have ks : wr.cell? ⟨b, off + i, none⟩ = some (.string X) := by
        have := (HPS.out wr HB.out).str i hil
        rw [HT.out, HX.out] at this
        exact this
      obtain ⟨r, HR⟩ : ∃ r, Hid (decide (t.getLast? = some 10) = r) := ⟨_, rfl⟩
      have C56 : Hid (∀ W : World, Calls Tryz.prog 56 #[.string X] W fun e w' => e = .returned (.bool r) ∧ w' = W) := hid (fun W => by
        rw [← HX.out, ← HR.out]
        exact hasEnd_any t (HLL.out t (by rw [← HT.out]; exact getD_mem L i [] hil)) W)
      have HIL := hid hil
      clear hil
      go_wp2_with fail
      refine (C56.out _).mono ?_
      rintro e w2 ⟨rfl, rfl⟩
      cases r with
      | false =>
        have HNO : Hid (¬ arL L) := hid (fun h => by
          have h1 := h i (by have := HN.out; have := HM.out; omega)
          rw [HT.out] at h1
          have h2 := HR.out
          rw [decide_eq_true h1] at h2
          cases h2)
        go_wp2
        go_ret
        exact ⟨⟨false, ⟨fun h => (by cases h), fun h => absurd h HNO.out⟩, rfl⟩, HB.out⟩
      | true =>
        have HD2 : Hid (∀ j, j < i + 1 → (L.getD j []).getLast? = some 10) := hid (fun j hj => by
          by_cases e : j = i
          · rw [e, HT.out]; exact of_decide_eq_true HR.out
          · exact HD.out j (by omega))
        go_wp2
        go_roundg (m - (i + 1))
        case measure => omega
        case rel => exact ⟨i + 1, by omega, rfl, by go_num, HB, HD2⟩
    · have hlti : ¬ (i : Int) < (m : Int) := by omega
      have HF : Hid (arL L) := hid (fun j hj => HD.out j (by have := HN.out; have := HM.out; omega))
      go_wp2
      go_ret
      exact ⟨⟨true, ⟨fun _ => HF.out, fun _ => rfl⟩, rfl⟩, HB.out⟩
end Go.Proofs.YtmpjapcijjjlbaaGreatDoor
namespace Go.Proofs.YtmpjapcijjjlbaaGreatDoor
open Go.RowKit
set_option linter.unusedVariables false
set_option linter.unusedSimpArgs false
theorem elem40 : Tryz.prog.underlying 40 = some (.slice (Tryz.prog.elem 40)) := by kernel_rfl
theorem size40e (w : World) : (Go.sizeOf (Tryz.prog.elem 40)).run Tryz.prog w = .ok 1 w := by kernel_rfl
theorem sl40_mid (a : Option Addr) (n cap i j : Nat) (hij : i ≤ j) (h : j ≤ cap) (w : World) : (Instr.slice 40 (.slice a n cap) (some (.int .i64 i)) (some (.int .i64 j)) none).run Tryz.prog w = .ok (.slice (adX 1 a cap i) (j - i : Nat) (cap - i : Nat)) w := by
  rw [run_slice_lh w 40 a n cap elem40 .i64 .i64 i j (by omega) (by omega) (by omega), size40e, Result.andThen_ok, sliced]
  rfl
def ctG (l : List Gh) : Nat := (l.map fun y => y.2.2.2.2.length).sum
theorem ctG_snoc (l : List Gh) (i : Nat) (y : Gh) (hi : i < l.length) (hy : l.getD i g0 = y) : ctG (l.take (i + 1)) = ctG (l.take i) + y.2.2.2.2.length := by
  unfold ctG
  rw [take_snocG g0 l i hi, hy]
  simp
theorem ctG_take (l : List Gh) (i : Nat) : ctG (l.take i) ≤ ctG l := by
  conv => rhs; rw [← List.take_append_drop i l]
  unfold ctG
  rw [List.map_append, List.sum_append]
  omega
theorem cA_take (es : List Ed) (k : Nat) (e : Ed) (hk : k < es.length) (he : es.getD k (0, []) = e) : cA (es.take (k + 1)) = cA (es.take k) + if e.1 = 2 then 0 else 1 := by
  rw [take_snocG (0, []) es k hk, he, cA_snoc]
def Sht (L : List Str) : Prop := ∀ x ∈ L, x.length ≤ 1000000
theorem Sht.snoc {L : List Str} {x : Str} (h : Sht L) (hx : x.length ≤ 1000000) : Sht (L ++ [x]) := fun y hy => by
  rcases List.mem_append.1 hy with hy | hy
  · exact h y hy
  · rw [List.mem_singleton.1 hy]; exact hx
structure OuI (X : List Str) (l : List Gh) (w wr : World) (G : Nat) (mv : Value) (i at_ : Nat) (made : List Str) : Prop where
  ap : apL X (l.take i) (0, []) = some (at_, made)
  en : (at_ : Int) = enA l i
  le : at_ ≤ X.length
  ml : made.length ≤ at_ + ctG (l.take i)
  sh : Sht made
  bs : BS w wr G mv made
structure InI (X : List Str) (es : List Ed) (s : As) (S : Nat) (w wr : World) (G : Nat) (mv : Value) (k at_ : Nat) (made : List Str) : Prop where
  ap : apE X (es.take k) s = some (at_, made)
  en : at_ = s.1 + cA (es.take k)
  le : at_ ≤ X.length
  ml : made.length ≤ at_ + (S + k)
  sh : Sht made
  bs : BS w wr G mv made
def PostCh (X : List Str) (l : List Gh) (w : World) (G : Nat) (e : Ending) (w' : World) : Prop :=
  Below G w w' ∧ ((∃ M v, chP X l = some M ∧ arL M ∧ Sht M ∧ M.length ≤ 10000000 ∧ e = .returned (.tuple #[v, .nilIface]) ∧ BS w w' G v M) ∨ ((∀ M, chP X l = some M → ¬ arL M) ∧ e = .returned (.tuple #[.slice none 0 0, .iface 33 (.int .i64 91)])))
theorem chP_none {X : List Str} {l : List Gh} (h : apL X l (0, []) = none) : ∀ M, chP X l = some M → ¬ arL M := fun M hM => by
  unfold chP at hM
  rw [h] at hM
  cases hM
structure Q14 (xb xo g : Nat) (Y Z : ByteArray) (W : World) : Prop where
  c0 : W.cell? ⟨xb, xo, none⟩ = some (.string Y)
  c1 : W.cell? ⟨g, 1, none⟩ = some (.string Z)
theorem Tryz.results19 : Tryz.f19.results = #[.tmp 4, .tmp 5] := by kernel_rfl
set_option maxRecDepth 20000 in
set_option maxHeartbeats 8000000 in
theorem change_any {w : World} (xa : Option Addr) (xc : Nat) (X : List Str) (hX : PS w xa xc X) (hXn : X.length ≤ 1000000) (hXl : Sht X) (ha : Option Addr) (hc : Nat) (l : List Gh) (hP : PG w ha hc l) (hE : ∀ y ∈ l, PE w y.2.2.1 y.2.2.2.1 y.2.2.2.2) (hok : NOk l) (hr : Rgt l) (hn : l.length ≤ 1000000) (hct : ctG l ≤ 1000000) :
    Calls Tryz.prog 19 #[.slice xa X.length xc, .slice ha l.length hc] w (PostCh X l w w.heap.size) := by
  obtain ⟨n, HN⟩ : ∃ n, Hid (X.length = n) := ⟨_, rfl⟩
  obtain ⟨q, HQ⟩ : ∃ n, Hid (l.length = n) := ⟨_, rfl⟩
  obtain ⟨G, HG⟩ : ∃ n, Hid (w.heap.size = n) := ⟨_, rfl⟩
  have hq6 : q ≤ 1000000 := by rw [← HQ.out]; exact hn
  have hn6 : n ≤ 1000000 := by rw [← HN.out]; exact hXn
  have HCAP : Hid (n ≤ xc) := hid (by rw [← HN.out]; exact hX.capl)
  have HPX : Hid (∀ W, Below G w W → PS W xa xc X) := hid (fun W hW => hX.below (by rw [HG.out]; exact hW))
  have HPP : Hid (∀ W, Below G w W → PG W ha hc l) := hid (fun W hW => hP.below (by rw [HG.out]; exact hW))
  have HPE : Hid (∀ W, Below G w W → ∀ y ∈ l, PE W y.2.2.1 y.2.2.2.1 y.2.2.2.2) := hid (fun W hW y hy => (hE y hy).below (by rw [HG.out]; exact hW))
  have HFA : Hid (0 < q → ∃ b off, ha = some ⟨b, off, none⟩) := hid (fun h0 => by
    obtain ⟨b, off, e1, _⟩ := hP.at_ (by rw [HQ.out]; exact h0)
    exact ⟨b, off, e1⟩)
  have HFX : Hid (0 < n → ∃ b off, xa = some ⟨b, off, none⟩) := hid (fun h0 => by
    obtain ⟨b, off, e1, _⟩ := hX.at_ (by rw [HN.out]; exact h0)
    exact ⟨b, off, e1⟩)
  have HOK := hid hok
  have HRG := hid hr
  have HXL := hid hXl
  have HCT := hid hct
  have HGS : Hid (∀ W, Below G w W → G ≤ W.heap.size) := hid (fun W hW => by have := hW.size; have := HG.out; omega)
  have HS0 : Hid (OuI X l w w G (.slice none 0 0) 0 0 []) := hid ⟨rfl, rfl, Nat.zero_le _, Nat.zero_le _, (fun x hx => by cases hx), ⟨Below.refl _ _, ⟨rfl, .inl ⟨rfl, rfl⟩⟩, by rw [HG.out]; exact Nat.le_refl _⟩⟩
  rw [HN.out, HQ.out, HG.out]
  clear hX hXn hXl hP hE hok hr hn hct
  go_enter Tryz.func19, Tryz.ntmps19
  go_wp2_with fail
  go_loopg [6, 7, 14] q (fun gg mv av iv wr => ∃ (i at_ : Nat) (made : List Str), i ≤ q ∧ gg = q - i ∧ iv = .int .i64 i ∧ av = .int .i64 at_ ∧ Hid (OuI X l w wr G mv i at_ made))
  case atStart => exact ⟨0, 0, [], Nat.zero_le _, rfl, rfl, rfl, HS0⟩
  case round =>
    obtain ⟨i, at_, made, hi, hkk, rfl, rfl, HS⟩ := hrel
    have hat6 : at_ ≤ 1000000 := by have := HS.out.le; have := HN.out; omega
    by_cases hlt : i < q
    · have hlti : (i : Int) < (q : Int) := by omega
      obtain ⟨b, off, rfl⟩ := HFA.out (by omega)
      have hil : i < l.length := by rw [HQ.out]; exact hlt
      obtain ⟨hc0, hc1, hc2⟩ := PG.three (HPP.out _ HS.out.bs.below) i hil
      obtain ⟨y, HY⟩ : ∃ y, Hid (l.getD i g0 = y) := ⟨_, rfl⟩
      have hym : y ∈ l := by rw [← HY.out]; exact getD_mem l i g0 hil
      rw [HY.out] at hc0 hc1 hc2
      obtain ⟨⟨ya, hya, ya1⟩, ⟨yb, hyb, yb1⟩, hel, hlok⟩ := HOK.out y hym
      have hrg := (HRG.out i hil).1
      rw [HY.out, ← HS.out.en] at hrg
      have HPM : Hid (∀ W, Below G w W → PE W y.2.2.1 y.2.2.2.1 y.2.2.2.2) := hid (fun W hW => HPE.out W hW y hym)
      have HAPS : Hid (apL X (l.take (i + 1)) (0, []) = apH X (at_, made) y) := hid (apL_snoc X l i (0, []) (at_, made) y hil HY.out HS.out.ap)
      have HENX : Hid (enA l (i + 1) = y.1 + ((cA y.2.2.2.2 : Nat) : Int)) := hid (by rw [enA, HY.out])
      have HCTX : Hid (ctG (l.take (i + 1)) = ctG (l.take i) + y.2.2.2.2.length) := hid (ctG_snoc l i y hil HY.out)
      have HCTL : Hid (ctG (l.take i) + y.2.2.2.2.length ≤ 1000000) := hid (by rw [← HCTX.out]; have := ctG_take l (i + 1); have := HCT.out; omega)
      obtain ⟨ya', yb', ea, ec, es⟩ := y
      unfold slE at hc2
      simp only at hya hyb hel hlok hc0 hc1 hc2 hrg HPM HENX HCTX HCTL
      subst hya hyb
      have HAH : Hid (apH X (at_, made) ((ya : Int), (yb : Int), ea, ec, es) = if (n : Int) < (ya : Int) then none else apE X es (ya, made ++ (X.drop at_).take (ya - at_))) := hid (by
        unfold apH
        rw [HN.out]
        simp only [Int.toNat_natCast])
      obtain ⟨ne, HNE⟩ : ∃ m, Hid (es.length = m) := ⟨_, rfl⟩
      rw [HNE.out] at hc2
      have hne6 : ne ≤ 1000000 := by rw [← HNE.out]; exact hel
      have hata : at_ ≤ ya := by omega
      have HLOK := hid hlok
      have HSB : Hid (Below G w wr) := hid HS.out.bs.below
      obtain ⟨g, HGg⟩ : ∃ m, Hid (wr.heap.size = m) := ⟨_, rfl⟩
      obtain ⟨wa, HWa⟩ : ∃ u, Hid (wr.alloc (.cells #[.int .i64 (ya : Int), .int .i64 (yb : Int), .slice ea ne ec] 73) = u) := ⟨_, rfl⟩
      have HBw : Hid (Below wr.heap.size wr wa) := hid (by rw [← HWa.out]; exact (Below.refl _ wr).alloc (Nat.le_refl _) _)
      have HBa : Hid (Below G w wa) := hid (HSB.out.trans (HBw.out.mono (HGS.out _ HSB.out)))
      have HGa : Hid (wa.heap[g]? = some (.cells #[.int .i64 (ya : Int), .int .i64 (yb : Int), .slice ea ne ec] 73 (0, 0))) := hid (by rw [← HWa.out, ← HGg.out]; exact heap_alloc_new wr _)
      have p0 : wa.cell? ⟨g, 0, none⟩ = some (.int .i64 (ya : Int)) := by rw [cell_of_row _ g 0 _ _ _ HGa.out]; rfl
      have p2 : wa.cell? ⟨g, 2, none⟩ = some (.slice ea ne ec) := by rw [cell_of_row _ g 2 _ _ _ HGa.out]; rfl
      have al1 : wr.alloc (.cells #[.int .i64 (ya : Int), .int .i64 (yb : Int), .slice ea ne ec] 73) = wa := HWa.out
      have hs1 : wr.heap.size = g := HGg.out
      by_cases hbig : (n : Int) < (ya : Int)
      · have HNO : Hid (∀ M, chP X l = some M → ¬ arL M) := hid (chP_none (apL_none X l (i + 1) (0, []) (by rw [HAPS.out, HAH.out, if_pos hbig])))
        clear hil hym hrg hel hlok
        go_wp2_with fail
        refine bodyPost_ret (results_tmp2 Tryz.results19 _ _ _) rfl ?_
        exact ⟨HBa.out, .inr ⟨HNO.out, rfl⟩⟩
      · have hyan : ya ≤ n := by omega
        rw [if_neg hbig] at HAH
        obtain ⟨made1, HM1⟩ : ∃ m, Hid (made ++ (X.drop at_).take (ya - at_) = m) := ⟨_, rfl⟩
        rw [HM1.out] at HAH
        have HLEN : Hid (((X.drop at_).take (ya - at_)).length = ya - at_) := hid (by rw [List.length_take, List.length_drop]; have := HN.out; omega)
        have hsl : ∀ W : World, (Instr.slice 40 (.slice xa n xc) (some (.int .i64 (at_ : Int))) (some (.int .i64 (ya : Int))) none).run Tryz.prog W = .ok (.slice (adX 1 xa xc at_) (ya - at_ : Nat) (xc - at_ : Nat)) W := fun W => sl40_mid xa n xc at_ ya hata (by have := HCAP.out; omega) W
        have HBSa : Hid (BS w wa G u6 made) := hid (HS.out.bs.carry HBw.out)
        have HPmid : Hid (PS wa (adX 1 xa xc at_) (xc - at_) ((X.drop at_).take (ya - at_))) := hid ((HPX.out wa HBa.out).mid at_ ya hata (by rw [HN.out]; exact hyan))
        have HNE8 : Hid (∀ j, u6.ownBlock = some j → j ≠ g) := hid (fun j hj => by have := (own_lt HS.out.bs.own j hj).2; have := HGg.out; omega)
        have HML : Hid (made.length + (ya - at_) ≤ 2000000) := hid (by have := HS.out.ml; have := HCTL.out; omega)
        have HML1 : Hid (made1.length ≤ ya + ctG (l.take i)) := hid (by rw [← HM1.out, List.length_append, HLEN.out]; have := HS.out.ml; omega)
        have HSH1 : Hid (Sht made1) := hid (by
          rw [← HM1.out]
          intro x hx
          rcases List.mem_append.1 hx with hx | hx
          · exact HS.out.sh x hx
          · exact HXL.out x (List.mem_of_mem_drop (List.mem_of_mem_take hx)))
        clear hil hym hrg hel hlok
        go_wp2_with (first
          | (refine wpList_bx_sl (d := []) rfl _ _ 40 9 und24 Tryz.info9 rfl (by decide) (by decide) encS_one rfl G _ made rfl HBSa.out (adX 1 xa xc at_) (xc - at_) ((X.drop at_).take (ya - at_)) (by rw [HLEN.out]; rfl) HPmid.out (fun x _ => encS_len x) (by rw [HLEN.out]; have := HML.out; omega) ?_
             intro v8 w8 hb8 hg8
             have h8 : w8.heap[g]? = some (.cells #[.int .i64 (ya : Int), .int .i64 (yb : Int), .slice ea ne ec] 73 (0, 0)) := (hg8.block g (lt_of_some HGa.out) (fun e => HNE8.out g e.symm rfl)).trans HGa.out
             have r0 : w8.cell? ⟨g, 0, none⟩ = some (.int .i64 (ya : Int)) := by rw [cell_of_row _ g 0 _ _ _ h8]; rfl
             have r2 : w8.cell? ⟨g, 2, none⟩ = some (.slice ea ne ec) := by rw [cell_of_row _ g 2 _ _ _ h8]; rfl)
          | fail)
        rw [HM1.out] at hb8
        have HI0 : Hid (InI X es (ya, made1) (ctG (l.take i)) w w8 G v8 0 ya made1) := hid ⟨rfl, rfl, by rw [HN.out]; exact hyan, by have := HML1.out; omega, HSH1.out, hb8⟩
        have HEF : Hid (0 < ne → ∃ b off, ea = some ⟨b, off, none⟩) := hid (fun h0 => by
          obtain ⟨b, off, e1, _⟩ := (HPM.out w8 hb8.below).at_ (by rw [HNE.out]; exact h0)
          exact ⟨b, off, e1⟩)
        clear hb8 hg8 h8 p0 p2 al1 hs1 hc0 hc1 hc2 hbig r0 r2
        go_loopg [6, 7, 36] ne (fun gg mv av iv wq => ∃ (k at2 : Nat) (made2 : List Str), k ≤ ne ∧ gg = ne - k ∧ iv = .int .i64 k ∧ av = .int .i64 at2 ∧ Hid (InI X es (ya, made1) (ctG (l.take i)) w wq G mv k at2 made2))
        case atStart => exact ⟨0, ya, made1, Nat.zero_le _, rfl, rfl, rfl, HI0⟩
        case round =>
          obtain ⟨k, at2, made2, hkl, hkk2, rfl, rfl, HI⟩ := hrel
          have hat26 : at2 ≤ 1000000 := by have := HI.out.le; have := HN.out; omega
          by_cases hkt : k < ne
          · have hkti : (k : Int) < (ne : Int) := by omega
            obtain ⟨zb, zo, rfl⟩ := HEF.out (by omega)
            have hkl2 : k < es.length := by rw [HNE.out]; exact hkt
            obtain ⟨hd0, hd1⟩ := PE.two (HPM.out _ HI.out.bs.below) k hkl2
            obtain ⟨x, HXE⟩ : ∃ x, Hid (es.getD k (0, []) = x) := ⟨_, rfl⟩
            rw [HXE.out] at hd0 hd1
            obtain ⟨hm1, hm2⟩ := HLOK.out x (by rw [← HXE.out]; exact getD_mem es k _ hkl2)
            have HAPE : Hid (apE X (es.take (k + 1)) (ya, made1) = ap1 X (at2, made2) x) := hid (apE_snoc X es k (ya, made1) (at2, made2) x hkl2 HXE.out HI.out.ap)
            have HCAX : Hid (cA (es.take (k + 1)) = cA (es.take k) + if x.1 = 2 then 0 else 1) := hid (cA_take es k x hkl2 HXE.out)
            obtain ⟨kd, xs⟩ := x
            simp only at hm1 hm2 hd0 hd1
            obtain ⟨Z, HZ⟩ : ∃ Z : ByteArray, Hid (⟨xs.toArray⟩ = Z) := ⟨_, hid rfl⟩
            rw [HZ.out] at hd1
            obtain ⟨g2, HG2⟩ : ∃ m, Hid (wr.heap.size = m) := ⟨_, rfl⟩
            obtain ⟨wb, HWb⟩ : ∃ u, Hid (wr.alloc (.cells #[.int .i64 (kd : Int), .string Z] 43) = u) := ⟨_, rfl⟩
            have HBb : Hid (Below wr.heap.size wr wb) := hid (by rw [← HWb.out]; exact (Below.refl _ wr).alloc (Nat.le_refl _) _)
            have HGb : Hid (wb.heap[g2]? = some (.cells #[.int .i64 (kd : Int), .string Z] 43 (0, 0))) := hid (by rw [← HWb.out, ← HG2.out]; exact heap_alloc_new wr _)
            have HBSb : Hid (BS w wb G u6 made2) := hid (HI.out.bs.carry HBb.out)
            have p0 : wb.cell? ⟨g2, 0, none⟩ = some (.int .i64 (kd : Int)) := by rw [cell_of_row _ g2 0 _ _ _ HGb.out]; rfl
            have p1 : wb.cell? ⟨g2, 1, none⟩ = some (.string Z) := by rw [cell_of_row _ g2 1 _ _ _ HGb.out]; rfl
            have HBu : Hid (∀ W : World, (Instr.buildSlice 40 1 #[(0, .string Z)]).run Tryz.prog W = .ok (.slice (some ⟨W.heap.size, 0, none⟩) 1 1) (W.alloc (.cells #[.string Z] 9))) := hid (fun W => by rw [← HZ.out]; exact run_build24 xs W)
            have HML2 : Hid (made2.length + 1 ≤ 5000000) := hid (by have := HI.out.ml; have := HCTL.out; omega)
            have al2 : wr.alloc (.cells #[.int .i64 (kd : Int), .string Z] 43) = wb := HWb.out
            have hs2 : wr.heap.size = g2 := HG2.out
            have HM2 := hid hm2
            clear hkl2 hm2
            rcases (by omega : kd = 2 ∨ kd = 0 ∨ kd = 1) with hk2 | hk01
            · have HCA0 : Hid (cA (es.take (k + 1)) = cA (es.take k)) := hid (by rw [HCAX.out]; simp [hk2])
              have HK2 := hid hk2
              have hki2 : ((kd : Int) != 2) = false := by simp; omega
              have hki1 : ((kd : Int) != 1) = true := by simp; omega
              clear hk2
              obtain ⟨wc, HWc⟩ : ∃ u, Hid (wb.alloc (.cells #[.string Z] 9) = u) := ⟨_, rfl⟩
              have HBSc : Hid (BS w wc G u6 made2) := hid (by rw [← HWc.out]; exact HBSb.out.alloc _)
              have HPc : Hid (PS wc (some ⟨wb.heap.size, 0, none⟩) 1 [xs]) := hid (by
                rw [← HWc.out, ← HZ.out]
                exact ps_one xs wb)
              go_wp2_with (first
                | (refine wpList_bS rfl 40 1 _ rfl (.string Z) _ rfl (HBu.out _) ?_; rw [HWc.out])
                | (refine wpList_bx_sl (d := []) rfl _ _ 40 9 und24 Tryz.info9 rfl (by decide) (by decide) encS_one rfl G _ made2 rfl HBSc.out (some ⟨wb.heap.size, 0, none⟩) 1 [xs] rfl HPc.out (fun x _ => encS_len x) (by have := HML2.out; simp; omega) ?_; intro v9 w9 hb9 hg9)
                | fail)
              have HIN : Hid (InI X es (ya, made1) (ctG (l.take i)) w w9 G v9 (k + 1) (at2) (made2 ++ [xs])) := hid ⟨by rw [HAPE.out]; exact ap1_two HK2.out, by rw [HCA0.out]; have := HI.out.en; omega, by exact HI.out.le, by have := HI.out.ml; simp; omega, HI.out.sh.snoc HM2.out, hb9⟩
              clear hb9 hg9
              go_wp2
              go_roundg (ne - (k + 1))
              case measure => omega
              case rel => exact ⟨k + 1, at2, made2 ++ [xs], by omega, rfl, by go_num, rfl, HIN⟩
            · have hkn2 : ¬ kd = 2 := by omega
              have hki2 : ((kd : Int) != 2) = true := by simp; omega
              have HCA1 : Hid (cA (es.take (k + 1)) = cA (es.take k) + 1) := hid (by rw [HCAX.out]; simp [hkn2])
              by_cases hend : at2 = n
              · have heb : ((at2 : Int) == (n : Int)) = true := by simp; omega
                have hei : (at2 : Int) = (n : Int) := by omega
                have HNO : Hid (∀ M, chP X l = some M → ¬ arL M) := hid (chP_none (apL_none X l (i + 1) (0, []) (by
                  rw [HAPS.out, HAH.out]
                  exact apE_none X es (k + 1) _ (by rw [HAPE.out]; exact ap1_no hkn2 (fun h => by have h1 : at2 < X.length := h.1; have := HN.out; omega)))))
                have HBd : Hid (Below wb.heap.size wb wb.drew) := hid ⟨rfl, rfl, rfl, Nat.le_refl _, fun _ _ => rfl⟩
                have HFB : Hid (Below G w wb.drew) := hid (HBSb.out.carry HBd.out).below
                go_wp2_with fail
                clear p0 p1 al2 hs2 hd0 hd1
                refine wp_region_held_drew (S := fun _ => True) (by kernel_rfl) trivial (fun hHeld => ?_)
                generalize wb.drew = u0 at hHeld HBd HFB ⊢
                refine takeL (i := 0) (v := ?_) rfl (by kernel_rfl) (by kernel_rfl) (by kernel_rfl) (fun _ _ _ h => h) (Or.inl ⟨by rfl, ?_⟩) hHeld ?_
                rotate_left
                · intro w' c0; go_simp; rfl
                try simp only [Act.put, List.setIfInBounds_toArray, List.set_cons_zero, List.set_cons_succ]
                refine takeL (i := 1) (v := ?_) rfl (by kernel_rfl) (by kernel_rfl) (by kernel_rfl) (fun _ _ _ h => h) (Or.inl ⟨by rfl, ?_⟩) hHeld ?_
                rotate_left
                · intro w' c0; go_simp; rfl
                try simp only [Act.put, List.setIfInBounds_toArray, List.set_cons_zero, List.set_cons_succ]
                refine takeL (i := 2) (v := ?_) rfl (by kernel_rfl) (by kernel_rfl) (by kernel_rfl) (fun _ _ _ h => h) (Or.inl ⟨by rfl, ?_⟩) hHeld ?_
                rotate_left
                · intro w' c0; go_simp; rfl
                try simp only [Act.put, List.setIfInBounds_toArray, List.set_cons_zero, List.set_cons_succ]
                refine takeL (i := 3) (v := .bool true) rfl (by kernel_rfl) (by kernel_rfl) (by kernel_rfl) (fun _ _ _ h => h) (Or.inl ⟨by rfl, ?_⟩) hHeld ?_
                · intro w' c0; go_simp; try rfl
                try simp only [Act.put, List.setIfInBounds_toArray, List.set_cons_zero, List.set_cons_succ]
                refine takeL (i := 4) (v := .bool true) rfl (by kernel_rfl) (by kernel_rfl) (by kernel_rfl) (fun _ _ _ h => h) (Or.inl ⟨by rfl, ?_⟩) hHeld ?_
                · intro w' c0; go_simp; try rfl
                try simp only [Act.put, List.setIfInBounds_toArray, List.set_cons_zero, List.set_cons_succ]
                refine takeL (i := 5) (v := undef) rfl (by kernel_rfl) (by kernel_rfl) (by kernel_rfl) (fun _ _ _ h => h) (Or.inr ⟨by kernel_rfl, rfl⟩) hHeld ?_
                try simp only [Act.put, List.setIfInBounds_toArray, List.set_cons_zero, List.set_cons_succ]
                refine takeL (i := 6) (v := undef) rfl (by kernel_rfl) (by kernel_rfl) (by kernel_rfl) (fun _ _ _ h => h) (Or.inr ⟨by kernel_rfl, rfl⟩) hHeld ?_
                try simp only [Act.put, List.setIfInBounds_toArray, List.set_cons_zero, List.set_cons_succ]
                refine takeL (i := 7) (v := undef) rfl (by kernel_rfl) (by kernel_rfl) (by kernel_rfl) (fun _ _ _ h => h) (Or.inr ⟨by kernel_rfl, rfl⟩) hHeld ?_
                try simp only [Act.put, List.setIfInBounds_toArray, List.set_cons_zero, List.set_cons_succ]
                refine takeL (i := 8) (v := undef) rfl (by kernel_rfl) (by kernel_rfl) (by kernel_rfl) (fun _ _ _ h => h) (Or.inr ⟨by kernel_rfl, rfl⟩) hHeld ?_
                try simp only [Act.put, List.setIfInBounds_toArray, List.set_cons_zero, List.set_cons_succ]
                refine takeL (i := 9) (v := undef) rfl (by kernel_rfl) (by kernel_rfl) (by kernel_rfl) (fun _ _ _ h => h) (Or.inr ⟨by kernel_rfl, rfl⟩) hHeld ?_
                try simp only [Act.put, List.setIfInBounds_toArray, List.set_cons_zero, List.set_cons_succ]
                refine takeL (i := 10) (v := undef) rfl (by kernel_rfl) (by kernel_rfl) (by kernel_rfl) (fun _ _ _ h => h) (Or.inr ⟨by kernel_rfl, rfl⟩) hHeld ?_
                try simp only [Act.put, List.setIfInBounds_toArray, List.set_cons_zero, List.set_cons_succ]
                refine takeL (i := 11) (v := undef) rfl (by kernel_rfl) (by kernel_rfl) (by kernel_rfl) (fun _ _ _ h => h) (Or.inr ⟨by kernel_rfl, rfl⟩) hHeld ?_
                try simp only [Act.put, List.setIfInBounds_toArray, List.set_cons_zero, List.set_cons_succ]
                refine takeL (i := 12) (v := .bool true) rfl (by kernel_rfl) (by kernel_rfl) (by kernel_rfl) (fun _ _ _ h => h) (Or.inl ⟨by rfl, ?_⟩) hHeld ?_
                · intro w' c0; go_simp; try rfl
                try simp only [Act.put, List.setIfInBounds_toArray, List.set_cons_zero, List.set_cons_succ]
                refine wpAnyH_done (by kernel_rfl) ?_ _
                clear hHeld
                go_wp2
                refine bodyPost_ret (results_tmp2 Tryz.results19 _ _ _) rfl ?_
                exact ⟨HFB.out, .inr ⟨HNO.out, rfl⟩⟩
              · have hlt2 : at2 < n := by have := HI.out.le; have := HN.out; omega
                have hei : ¬ (at2 : Int) = (n : Int) := by omega
                have heb : ((at2 : Int) == (n : Int)) = false := by simp; omega
                have hlti2 : (at2 : Int) < (n : Int) := by omega
                obtain ⟨xb, xo, rfl⟩ := HFX.out (by omega)
                obtain ⟨yy, HYY⟩ : ∃ yy, Hid (X.getD at2 [] = yy) := ⟨_, rfl⟩
                obtain ⟨Y, HYB⟩ : ∃ Y : ByteArray, Hid (⟨yy.toArray⟩ = Y) := ⟨_, hid rfl⟩
                have HBd : Hid (Below wb.heap.size wb wb.drew) := hid ⟨rfl, rfl, rfl, Nat.le_refl _, fun _ _ => rfl⟩
                have HBSd : Hid (BS w wb.drew G u6 made2) := hid (HBSb.out.carry HBd.out)
                have HGd : Hid (wb.drew.heap[g2]? = some (.cells #[.int .i64 (kd : Int), .string Z] 43 (0, 0))) := hid HGb.out
                have HQ0 : Hid (Q14 xb (xo + at2) g2 Y Z wb.drew) := hid ⟨by
                  have := (HPX.out wb.drew HBSd.out.below).str at2 (by rw [HN.out]; exact hlt2)
                  rw [HYY.out, HYB.out] at this
                  exact this, by rw [cell_of_row _ g2 1 _ _ _ HGd.out]; rfl⟩
                go_wp2_with fail
                clear p0 p1 al2 hs2 hd0 hd1
                refine wp_region_held_drew (S := Q14 xb (xo + at2) g2 Y Z) (by kernel_rfl) HQ0.out (fun hHeld => ?_)
                generalize wb.drew = u0 at hHeld HBd HBSd HGd HQ0 ⊢
                refine takeL (i := 0) (v := ?_) rfl (by kernel_rfl) (by kernel_rfl) (by kernel_rfl) (fun _ _ _ h => h) (Or.inl ⟨by rfl, ?_⟩) hHeld ?_
                rotate_left
                · rintro w' ⟨c0, c1⟩; go_simp; rfl
                try simp only [Act.put, List.setIfInBounds_toArray, List.set_cons_zero, List.set_cons_succ]
                refine takeL (i := 1) (v := ?_) rfl (by kernel_rfl) (by kernel_rfl) (by kernel_rfl) (fun _ _ _ h => h) (Or.inl ⟨by rfl, ?_⟩) hHeld ?_
                rotate_left
                · rintro w' ⟨c0, c1⟩; go_simp; rfl
                try simp only [Act.put, List.setIfInBounds_toArray, List.set_cons_zero, List.set_cons_succ]
                refine takeL (i := 2) (v := ?_) rfl (by kernel_rfl) (by kernel_rfl) (by kernel_rfl) (fun _ _ _ h => h) (Or.inl ⟨by rfl, ?_⟩) hHeld ?_
                rotate_left
                · rintro w' ⟨c0, c1⟩; go_simp; rfl
                try simp only [Act.put, List.setIfInBounds_toArray, List.set_cons_zero, List.set_cons_succ]
                refine takeL (i := 3) (v := .bool false) rfl (by kernel_rfl) (by kernel_rfl) (by kernel_rfl) (fun _ _ _ h => h) (Or.inl ⟨by rfl, ?_⟩) hHeld ?_
                · rintro w' ⟨c0, c1⟩; go_simp; try rfl
                try simp only [Act.put, List.setIfInBounds_toArray, List.set_cons_zero, List.set_cons_succ]
                refine takeL (i := 4) (v := .bool false) rfl (by kernel_rfl) (by kernel_rfl) (by kernel_rfl) (fun _ _ _ h => h) (Or.inl ⟨by rfl, ?_⟩) hHeld ?_
                · rintro w' ⟨c0, c1⟩; go_simp; try rfl
                try simp only [Act.put, List.setIfInBounds_toArray, List.set_cons_zero, List.set_cons_succ]
                refine takeL (i := 5) (v := ?_) rfl (by kernel_rfl) (by kernel_rfl) (by kernel_rfl) (fun _ _ _ h => h) (Or.inl ⟨by rfl, ?_⟩) hHeld ?_
                rotate_left
                · rintro w' ⟨c0, c1⟩; go_simp; rfl
                try simp only [Act.put, List.setIfInBounds_toArray, List.set_cons_zero, List.set_cons_succ]
                refine takeL (i := 6) (v := ?_) rfl (by kernel_rfl) (by kernel_rfl) (by kernel_rfl) (fun _ _ _ h => h) (Or.inl ⟨by rfl, ?_⟩) hHeld ?_
                rotate_left
                · rintro w' ⟨c0, c1⟩; go_simp; rfl
                try simp only [Act.put, List.setIfInBounds_toArray, List.set_cons_zero, List.set_cons_succ]
                refine takeL (i := 7) (v := ?_) rfl (by kernel_rfl) (by kernel_rfl) (by kernel_rfl) (fun _ _ _ h => h) (Or.inl ⟨by rfl, ?_⟩) hHeld ?_
                rotate_left
                · rintro w' ⟨c0, c1⟩; go_simp; rfl
                try simp only [Act.put, List.setIfInBounds_toArray, List.set_cons_zero, List.set_cons_succ]
                refine takeL (i := 8) (v := ?_) rfl (by kernel_rfl) (by kernel_rfl) (by kernel_rfl) (fun _ _ _ h => h) (Or.inl ⟨by rfl, ?_⟩) hHeld ?_
                rotate_left
                · rintro w' ⟨c0, c1⟩; go_simp; rfl
                try simp only [Act.put, List.setIfInBounds_toArray, List.set_cons_zero, List.set_cons_succ]
                refine takeL (i := 9) (v := ?_) rfl (by kernel_rfl) (by kernel_rfl) (by kernel_rfl) (fun _ _ _ h => h) (Or.inl ⟨by rfl, ?_⟩) hHeld ?_
                rotate_left
                · rintro w' ⟨c0, c1⟩; go_simp; rfl
                try simp only [Act.put, List.setIfInBounds_toArray, List.set_cons_zero, List.set_cons_succ]
                refine takeL (i := 10) (v := ?_) rfl (by kernel_rfl) (by kernel_rfl) (by kernel_rfl) (fun _ _ _ h => h) (Or.inl ⟨by rfl, ?_⟩) hHeld ?_
                rotate_left
                · rintro w' ⟨c0, c1⟩; go_simp; rfl
                try simp only [Act.put, List.setIfInBounds_toArray, List.set_cons_zero, List.set_cons_succ]
                by_cases hne2 : yy = xs
                · have hbn : (Y.toList != Z.toList) = false := by rw [← HYB.out, ← HZ.out, hne2]; simp
                  have hXA : X.getD at2 [] = xs := by rw [HYY.out]; exact hne2
                  have q0 : u0.cell? ⟨g2, 0, none⟩ = some (.int .i64 (kd : Int)) := by rw [cell_of_row _ g2 0 _ _ _ HGd.out]; rfl
                  have q1 : u0.cell? ⟨g2, 1, none⟩ = some (.string Z) := by rw [cell_of_row _ g2 1 _ _ _ HGd.out]; rfl
                  have hYZ : Z = Y := by rw [← HYB.out, ← HZ.out, hne2]
                  subst hYZ
                  clear hne2
                  refine takeL (i := 11) (v := .bool false) rfl (by kernel_rfl) (by kernel_rfl) (by kernel_rfl) (fun _ _ _ h => h) (Or.inl ⟨by rfl, ?_⟩) hHeld ?_
                  · rintro w' ⟨c0, c1⟩; go_simp; try rfl
                  try simp only [Act.put, List.setIfInBounds_toArray, List.set_cons_zero, List.set_cons_succ]
                  refine takeL (i := 12) (v := .bool false) rfl (by kernel_rfl) (by kernel_rfl) (by kernel_rfl) (fun _ _ _ h => h) (Or.inl ⟨by rfl, ?_⟩) hHeld ?_
                  · rintro w' ⟨c0, c1⟩; go_simp; try rfl
                  try simp only [Act.put, List.setIfInBounds_toArray, List.set_cons_zero, List.set_cons_succ]
                  refine wpAnyH_done (by kernel_rfl) ?_ _
                  clear hHeld
                  rcases hk01 with hk0 | hk1
                  · have HK0 := hid hk0
                    have hki1 : ((kd : Int) != 1) = true := by simp; omega
                    clear hk0
                    obtain ⟨wc, HWc⟩ : ∃ u, Hid (u0.alloc (.cells #[.string Z] 9) = u) := ⟨_, rfl⟩
                    have HBSc : Hid (BS w wc G u6 made2) := hid (by rw [← HWc.out]; exact HBSd.out.alloc _)
                    have HPc : Hid (PS wc (some ⟨u0.heap.size, 0, none⟩) 1 [xs]) := hid (by
                      rw [← HWc.out, ← HZ.out]
                      exact ps_one xs u0)
                    go_wp2_with (first
                      | (refine wpList_bS rfl 40 1 _ rfl (.string Z) _ rfl (HBu.out _) ?_; rw [HWc.out])
                      | (refine wpList_bx_sl (d := []) rfl _ _ 40 9 und24 Tryz.info9 rfl (by decide) (by decide) encS_one rfl G _ made2 rfl HBSc.out (some ⟨u0.heap.size, 0, none⟩) 1 [xs] rfl HPc.out (fun x _ => encS_len x) (by have := HML2.out; simp; omega) ?_; intro v9 w9 hb9 hg9)
                      | fail)
                    have HIN : Hid (InI X es (ya, made1) (ctG (l.take i)) w w9 G v9 (k + 1) (at2 + 1) (made2 ++ [xs])) := hid ⟨by rw [HAPE.out]; exact ap1_zero HK0.out (by rw [HN.out]; exact hlt2) hXA, by rw [HCA1.out]; have := HI.out.en; omega, by rw [HN.out]; exact hlt2, by have := HI.out.ml; simp; omega, HI.out.sh.snoc HM2.out, hb9⟩
                    clear hb9 hg9
                    go_wp2
                    go_roundg (ne - (k + 1))
                    case measure => omega
                    case rel => exact ⟨k + 1, at2 + 1, made2 ++ [xs], by omega, rfl, by go_num, by go_num, HIN⟩
                  · have HK1 := hid hk1
                    have hki1 : ((kd : Int) != 1) = false := by simp; omega
                    clear hk1
                    have HIN : Hid (InI X es (ya, made1) (ctG (l.take i)) w u0 G u6 (k + 1) (at2 + 1) made2) := hid ⟨by rw [HAPE.out]; exact ap1_one HK1.out (by rw [HN.out]; exact hlt2) hXA, by rw [HCA1.out]; have := HI.out.en; omega, by rw [HN.out]; exact hlt2, by have := HI.out.ml; omega, HI.out.sh, HBSd.out⟩
                    go_wp2
                    go_roundg (ne - (k + 1))
                    case measure => omega
                    case rel => exact ⟨k + 1, at2 + 1, made2, by omega, rfl, by go_num, by go_num, HIN⟩
                · have hbn : (Y.toList != Z.toList) = true := by
                    have h1 : (Y.toList == Z.toList) = false := by
                      rw [← HYB.out, ← HZ.out]
                      simp
                      exact hne2
                    rw [bne, h1]
                    rfl
                  have hnn : ¬ Y.toList = Z.toList := by
                    rw [← HYB.out, ← HZ.out]
                    simp
                    exact hne2
                  have HNO : Hid (∀ M, chP X l = some M → ¬ arL M) := hid (chP_none (apL_none X l (i + 1) (0, []) (by
                    rw [HAPS.out, HAH.out]
                    exact apE_none X es (k + 1) _ (by rw [HAPE.out]; exact ap1_no hkn2 (fun h => hne2 (by rw [← HYY.out]; exact h.2))))))
                  have HFB : Hid (Below G w u0) := hid HBSd.out.below
                  clear hne2
                  refine takeL (i := 11) (v := .bool true) rfl (by kernel_rfl) (by kernel_rfl) (by kernel_rfl) (fun _ _ _ h => h) (Or.inl ⟨by rfl, ?_⟩) hHeld ?_
                  · rintro w' ⟨c0, c1⟩; go_simp; try rfl
                  try simp only [Act.put, List.setIfInBounds_toArray, List.set_cons_zero, List.set_cons_succ]
                  refine takeL (i := 12) (v := .bool true) rfl (by kernel_rfl) (by kernel_rfl) (by kernel_rfl) (fun _ _ _ h => h) (Or.inl ⟨by rfl, ?_⟩) hHeld ?_
                  · rintro w' ⟨c0, c1⟩; go_simp; try rfl
                  try simp only [Act.put, List.setIfInBounds_toArray, List.set_cons_zero, List.set_cons_succ]
                  refine wpAnyH_done (by kernel_rfl) ?_ _
                  clear hHeld
                  go_wp2
                  refine bodyPost_ret (results_tmp2 Tryz.results19 _ _ _) rfl ?_
                  exact ⟨HFB.out, .inr ⟨HNO.out, rfl⟩⟩
          · have hge : ¬ (k : Int) < (ne : Int) := by omega
            have HET : Hid (es.take k = es) := hid (List.take_of_length_le (by rw [HNE.out]; omega))
            have HOU : Hid (OuI X l w wr G u6 (i + 1) at2 made2) := hid (by
              have h := HI.out
              have h1 := h.ap
              have h2 := h.en
              rw [HET.out] at h1 h2
              refine ⟨by rw [HAPS.out, HAH.out]; exact h1, by rw [HENX.out, h2]; simp, h.le, ?_, h.sh, h.bs⟩
              have h3 := h.ml
              rw [HCTX.out, HNE.out]
              omega)
            go_wp2
            go_roundg (q - (i + 1))
            case measure => omega
            case rel => exact ⟨i + 1, at2, made2, by omega, rfl, by go_num, rfl, HOU⟩
    · have hlti : ¬ (i : Int) < (q : Int) := by omega
      have HTA : Hid (l.take i = l) := hid (List.take_of_length_le (by rw [HQ.out]; omega))
      have hAN : at_ ≤ n := by rw [← HN.out]; exact HS.out.le
      obtain ⟨M, HMM⟩ : ∃ M, Hid (made ++ X.drop at_ = M) := ⟨_, rfl⟩
      have HCH : Hid (chP X l = some M) := hid (by
        have h := HS.out.ap
        rw [HTA.out] at h
        unfold chP
        rw [h]
        simp only [Option.map_some]
        rw [HMM.out])
      have HLEN : Hid ((X.drop at_).length = n - at_) := hid (by rw [List.length_drop, HN.out])
      have hsl : ∀ W : World, (Instr.slice 40 (.slice xa n xc) (some (.int .i64 (at_ : Int))) none none).run Tryz.prog W = .ok (.slice (adX 1 xa xc at_) (n - at_ : Nat) (xc - at_ : Nat)) W := fun W => sl24_from xa n xc at_ hAN W
      have HBSa : Hid (BS w wr G u6 made) := hid HS.out.bs
      have HPf : Hid (PS wr (adX 1 xa xc at_) (xc - at_) (X.drop at_)) := hid ((HPX.out wr HS.out.bs.below).from at_ (by rw [HN.out]; exact hAN))
      have HML : Hid (made.length + (n - at_) ≤ 5000000) := hid (by have := HS.out.ml; have := ctG_take l i; have := HCT.out; omega)
      have HMS : Hid (Sht M) := hid (by
        rw [← HMM.out]
        intro x hx
        rcases List.mem_append.1 hx with hx | hx
        · exact HS.out.sh x hx
        · exact HXL.out x (List.mem_of_mem_drop hx))
      have HMLN : Hid (M.length ≤ 10000000) := hid (by rw [← HMM.out, List.length_append, HLEN.out]; have := HML.out; omega)
      go_wp2_with (first
        | (refine wpList_bx_sl (d := []) rfl _ _ 40 9 und24 Tryz.info9 rfl (by decide) (by decide) encS_one rfl G _ made rfl HBSa.out (adX 1 xa xc at_) (xc - at_) (X.drop at_) (by rw [HLEN.out]; rfl) HPf.out (fun x _ => encS_len x) (by rw [HLEN.out]; have := HML.out; omega) ?_; intro v8 w8 hb8 hg8)
        | fail)
      rw [HMM.out] at hb8
      obtain ⟨ma, mc, rfl, hps, _⟩ := hb8.px (d := []) (fun x _ => encS_len x)
      obtain ⟨mm, HMN⟩ : ∃ m, Hid (M.length = m) := ⟨_, rfl⟩
      have C40 : Hid (Calls Tryz.prog 40 #[.slice ma mm mc] w8 fun e w' => BIR (arL M) e ∧ Below w8.heap.size w8 w') := hid (by rw [← HMN.out]; exact areLines_any ma mc M hps (by have := HMLN.out; omega) (fun x hx => by have := HMS.out x hx; omega))
      rw [HMN.out] at hb8
      rw [HMN.out]
      have HB8 := hid hb8
      clear hb8 hg8 hps
      go_wp2_with fail
      refine C40.out.mono ?_
      rintro e w9 ⟨⟨r, hr, rfl⟩, hb9⟩
      have HB9 : Hid (BS w w9 G (.slice ma mm mc) M) := hid (HB8.out.carry hb9)
      have HRR := hid hr
      clear hr hb9
      cases r with
      | false =>
        have HNO : Hid (∀ M, chP X l = some M → ¬ arL M) := hid (fun M2 h2 h3 => by
          rw [HCH.out] at h2
          cases h2
          have := HRR.out.2 h3
          cases this)
        go_wp2
        refine bodyPost_ret (results_tmp2 Tryz.results19 _ _ _) rfl ?_
        exact ⟨HB9.out.below, .inr ⟨HNO.out, rfl⟩⟩
      | true =>
        have HAR : Hid (arL M) := hid (HRR.out.1 rfl)
        go_wp2
        refine bodyPost_ret (results_tmp2 Tryz.results19 _ _ _) rfl ?_
        exact ⟨HB9.out.below, .inl ⟨M, _, HCH.out, HAR.out, HMS.out, HMLN.out, rfl, HB9.out⟩⟩
end Go.Proofs.YtmpjapcijjjlbaaGreatDoor
