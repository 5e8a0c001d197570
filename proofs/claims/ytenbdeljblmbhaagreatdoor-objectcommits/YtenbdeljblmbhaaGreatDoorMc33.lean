import Derived.Test.YtenbdeljblmbhaaGreatDoorMc32
import Derived.Test.YtenbdeljblmbhaaGreatDoorMc29
import Derived.Test.YtenbdeljblmbhaaGreatDoorMc24
import Derived.Test.YtenbdeljblmbhaaGreatDoorMc25
import Derived.Test.YtenbdeljblmbhaaGreatDoorMc27
import Derived.Test.YtenbdeljblmbhaaGreatDoorMc30
/- The document's side of chapter 3: a person, read. -/
namespace Go.Proofs.YtenbdeljblmbhaaGreatDoor
open Go.RowKit
set_option linter.unusedVariables false
set_option linter.unusedSimpArgs false
/-- While a person is read. -/
structure PB (G : Nat) (A B : ByteArray) (T Z : Int) (w W : World) : Prop where
  below : Below G w W
  box : W.heap[G + 1]? = some (.cells #[.string A, .string B, .int .i64 T, .int .i64 Z] 64 (0, 0))
  res : W.heap[G]? = some (.cells #[.string ⟨#[]⟩, .string ⟨#[]⟩, .int .i64 0, .int .i64 0] 64 (0, 0))
theorem PB.step {G : Nat} {A B A' B' : ByteArray} {T Z T' Z' : Int} {w W : World} (h : PB G A B T Z w W) (i : Nat) (v : Value) (he : (#[.string A, .string B, .int .i64 T, .int .i64 Z] : Array Value).setIfInBounds i v = #[.string A', .string B', .int .i64 T', .int .i64 Z']) : PB G A' B' T' Z' w (W.setCell ⟨G + 1, i, none⟩ v) :=
  ⟨h.below.setCell (by show G ≤ G + 1; omega) _, by rw [heap_setCell_same W (G + 1) i _ 64 v h.box, he], (heap_setCell_other W ⟨G + 1, i, none⟩ G v (by show G ≠ G + 1; omega)).trans h.res⟩
theorem PB.grow {G : Nat} {A B : ByteArray} {T Z : Int} {w W W' : World} (h : PB G A B T Z w W) (hb : Below W.heap.size W W') : PB G A B T Z w W' :=
  ⟨h.below.trans (hb.mono (Nat.le_of_lt (lt_of_some h.res))), (hb.block _ (lt_of_some h.box)).trans h.box, (hb.block _ (lt_of_some h.res)).trans h.res⟩
theorem PB.cells {G : Nat} {A B : ByteArray} {T Z : Int} {w W : World} (h : PB G A B T Z w W) : W.cell? ⟨G + 1, 0, none⟩ = some (.string A) ∧ W.cell? ⟨G + 1, 1, none⟩ = some (.string B) ∧ W.cell? ⟨G + 1, 2, none⟩ = some (.int .i64 T) ∧ W.cell? ⟨G + 1, 3, none⟩ = some (.int .i64 Z) ∧ ∀ i, W.frozen? ⟨G + 1, i, none⟩ = false :=
  ⟨(cell_of_row W (G + 1) 0 _ _ _ h.box).trans rfl, (cell_of_row W (G + 1) 1 _ _ _ h.box).trans rfl, (cell_of_row W (G + 1) 2 _ _ _ h.box).trans rfl, (cell_of_row W (G + 1) 3 _ _ _ h.box).trans rfl, fun i => frozen_of_row W (G + 1) i _ _ h.box⟩
theorem Tryz.results109 : Tryz.f109.results = #[.cell 2 64, .tmp 3] := by kernel_rfl
theorem Tryz.size64 : (Tryz.prog.info? 64).map (·.size) = some 4 := by kernel_rfl
/-- What 'readPerson' gives. -/
def PostRP (s : List UInt8) (e : Ending) : Prop := ∃ p b, e = .returned (.tuple #[.agg (perV p), .bool b]) ∧ (b = true → okP p ∧ perB p = s) ∧ ∀ q, okP q → perB q = s → b = true
set_option maxRecDepth 20000 in
set_option maxHeartbeats 2000000 in
theorem readPerson_any (s : List UInt8) (hs : s.length ≤ 1000000) (w : World) : Calls Tryz.prog 109 #[.string ⟨s.toArray⟩] w fun e w' => Below w.heap.size w w' ∧ PostRP s e := by
  obtain ⟨S, HS⟩ : ∃ S : ByteArray, Hid (⟨s.toArray⟩ = S) := ⟨_, rfl⟩
  obtain ⟨n, HN⟩ : ∃ n, Hid (s.length = n) := ⟨_, rfl⟩
  have hsz : S.size = n := by rw [← HS.out, txt_len]; exact HN.out
  have hn : n ≤ 1000000 := by rw [← HN.out]; exact hs
  obtain ⟨G, HG⟩ : ∃ G, Hid (w.heap.size = G) := ⟨_, rfl⟩
  obtain ⟨w1, HW1⟩ : ∃ w1, Hid ((w.alloc (.cells #[.string ⟨#[]⟩, .string ⟨#[]⟩, .int .i64 0, .int .i64 0] 64)).alloc (.cells #[.string ⟨#[]⟩, .string ⟨#[]⟩, .int .i64 0, .int .i64 0] 64) = w1) := ⟨_, rfl⟩
  have PB1 : Hid (PB G ⟨#[]⟩ ⟨#[]⟩ 0 0 w w1) := hid (by
    rw [← HW1.out, ← HG.out]
    refine ⟨((Below.refl _ w).alloc (Nat.le_refl _) _).alloc (by simp) _, ?_, ?_⟩
    · have := heap_alloc_new (w.alloc (.cells #[.string ⟨#[]⟩, .string ⟨#[]⟩, .int .i64 0, .int .i64 0] 64)) (.cells #[.string ⟨#[]⟩, .string ⟨#[]⟩, .int .i64 0, .int .i64 0] 64)
      simpa using this
    · have h1 := heap_alloc_new w (.cells #[.string ⟨#[]⟩, .string ⟨#[]⟩, .int .i64 0, .int .i64 0] 64)
      have h2 := ((Below.refl (w.alloc (.cells #[.string ⟨#[]⟩, .string ⟨#[]⟩, .int .i64 0, .int .i64 0] 64)).heap.size (w.alloc (.cells #[.string ⟨#[]⟩, .string ⟨#[]⟩, .int .i64 0, .int .i64 0] 64))).alloc (Nat.le_refl _) (.cells #[.string ⟨#[]⟩, .string ⟨#[]⟩, .int .i64 0, .int .i64 0] 64)).block w.heap.size (by simp)
      exact h2.trans h1)
  have NOP : Hid ((∀ q, okP q → perB q ≠ s) → PostRP s (.returned (.tuple #[.agg #[.string ⟨#[]⟩, .string ⟨#[]⟩, .int .i64 0, .int .i64 0], .bool false]))) := fun h => ⟨⟨[], [], 0, 0⟩, false, rfl, (fun h => by cases h), fun q h1 h2 => absurd h2 (h q h1)⟩
  rw [HS.out]
  clear hs
  go_enter Tryz.func109, Tryz.ntmps109
  go_wp2
  rw [HG.out, HW1.out]
  go_loopg [5] n (fun g i wr => ∃ o : Nat, o ≤ n ∧ g = n - o ∧ i = .int .i64 o ∧ Hid (∀ x ∈ s.take o, x ≠ 60) ∧ Hid (wr = w1))
  case atStart => exact ⟨0, by omega, rfl, rfl, hid (by simp), hid rfl⟩
  case round =>
    obtain ⟨o, ho, hk, rfl, HT, HWR⟩ := hrel
    have h2 : w1 = wr := HWR.out.symm
    subst h2
    clear HWR
    by_cases hlt : o < n
    · have hlti : (o : Int) < (n : Int) := by omega
      obtain ⟨x, hx⟩ : ∃ x, s[o]? = some x := ⟨_, List.getElem?_eq_getElem (by rw [HN.out]; exact hlt)⟩
      obtain ⟨c, HC⟩ : ∃ c, Hid ((x.toNat : Int) = c) := ⟨_, rfl⟩
      have HX : Hid (s[o]? = some x) := hx
      have hix : ∀ w1 : World, (Instr.index 9 (.string S) (.int .i64 o)).run Tryz.prog w1 = .ok (.int .u8 c) w1 := fun w1 => by rw [← HS.out, ← HC.out]; exact index_txt s o w1 x HX.out
      clear hx
      by_cases hc : c = 60
      · have HO2 : Hid (s[o]? = some 60) := hid (by rw [HX.out, (u8_ne (n := 60) (by decide)).1 (HC.out.trans hc)]; rfl)
        clear HC
        subst hc
        go_wp2
        go_loopg [6] (n - o) (fun g i wr => ∃ sh : Nat, o ≤ sh ∧ sh ≤ n ∧ g = n - sh ∧ i = .int .i64 sh ∧ Hid (∀ x ∈ (s.take sh).drop o, x ≠ 62) ∧ Hid (wr = w1))
        case atStart => exact ⟨o, by omega, by omega, rfl, rfl, hid (by simp), hid rfl⟩
        case round =>
          obtain ⟨sh, hsh1, hsh, hk2, rfl, HT2, HWR⟩ := hrel
          have h2 : w1 = wr := HWR.out.symm
          subst h2
          clear HWR
          by_cases hlt2 : sh < n
          · have hlti2 : (sh : Int) < (n : Int) := by omega
            obtain ⟨y, hy⟩ : ∃ x, s[sh]? = some x := ⟨_, List.getElem?_eq_getElem (by rw [HN.out]; exact hlt2)⟩
            obtain ⟨d, HD⟩ : ∃ c, Hid ((y.toNat : Int) = c) := ⟨_, rfl⟩
            have HY : Hid (s[sh]? = some y) := hy
            have hiy : ∀ w1 : World, (Instr.index 9 (.string S) (.int .i64 sh)).run Tryz.prog w1 = .ok (.int .u8 d) w1 := fun w1 => by rw [← HS.out, ← HD.out]; exact index_txt s sh w1 y HY.out
            clear hy
            by_cases hd : d = 62
            · have HS2 : Hid (s[sh]? = some 62) := hid (by rw [HY.out, (u8_ne (n := 62) (by decide)).1 (HD.out.trans hd)]; rfl)
              clear HD
              subst hd
              have hge2 : ¬ (n : Int) ≤ (sh : Int) := by omega
              have HPT : Hid (∀ q, okP q → perB q = s → o = q.name.length + 1 ∧ sh = q.name.length + 2 + q.mail.length ∧ s.length = sh + 8 + (Lib.decDigits q.time.toNat).length ∧ s.take (o - 1) = q.name ∧ (s.drop (o + 1)).take (sh - (o + 1)) = q.mail ∧
                  (s.drop (sh + 2)).take (s.length - 6 - (sh + 2)) = Lib.decDigits q.time.toNat ∧ (s.drop (s.length - 4)).take 2 = two (zh q) ∧ s.drop (s.length - 2) = two (zm q) ∧ s[s.length - 5]? = some (zs q)) := fun q h1 h2 => per_parts q h1 s h2 o sh HT.out (.inr HO2.out) hsh1 HT2.out (.inr HS2.out)
              by_cases ho1 : (o : Int) < 1
              · have HNO : Hid (∀ q, okP q → perB q ≠ s) := fun q h1 h2 => by have := (HPT.out q h1 h2).1; omega
                obtain ⟨c0, c1, c2, c3, cf⟩ := PB1.out.cells
                have E1 : Hid (w1.there G 0 (#[.string ⟨#[]⟩, .string ⟨#[]⟩, .int .i64 0, .int .i64 0] : Array Value).size) := hid (there_off PB1.out.res 0 (Nat.le_refl _))
                have E2 : Hid ((Tryz.prog.info? 64).map (·.size) = some (#[.string ⟨#[]⟩, .string ⟨#[]⟩, .int .i64 0, .int .i64 0] : Array Value).size) := Tryz.size64
                have E3 : Hid ((#[.string ⟨#[]⟩, .string ⟨#[]⟩, .int .i64 0, .int .i64 0] : Array Value).all (·.oneCell') = true) := hid (all_oneCell_toArray (fun v hv => by simp only [List.mem_cons, List.not_mem_nil, or_false] at hv; rcases hv with rfl | rfl | rfl | rfl <;> rfl))
                go_wp2_with (refine wpList_store_mid rfl 64 _ _ rfl G 0 #[.string ⟨#[]⟩, .string ⟨#[]⟩, .int .i64 0, .int .i64 0] rfl rfl E1.out E2.out E3.out ?_)
                refine bodyPost_ret (v := .tuple #[.agg #[.string ⟨#[]⟩, .string ⟨#[]⟩, .int .i64 0, .int .i64 0], .bool false]) (results_mid2 Tryz.results109 _ _ G (#[.string ⟨#[]⟩, .string ⟨#[]⟩, .int .i64 0, .int .i64 0] : Array Value).toList _ rfl (World.rangeAt_setCells_same w1 G 0 _ E1.out) Tryz.underlying64 rfl Tryz.size64) rfl ⟨?_, ?_⟩
                · rw [HG.out]; exact below_setCells (Nat.le_refl _) _ _ _ _ PB1.out.below
                · exact NOP.out HNO.out
              by_cases h9 : (n : Int) < (sh : Int) + 9
              · have HNO : Hid (∀ q, okP q → perB q ≠ s) := fun q h1 h2 => by
                  have h3 := (HPT.out q h1 h2).2.2.1
                  have h4 := (dig_val q.time.toNat).2.2.1
                  rw [HN.out] at h3
                  omega
                obtain ⟨c0, c1, c2, c3, cf⟩ := PB1.out.cells
                have E1 : Hid (w1.there G 0 (#[.string ⟨#[]⟩, .string ⟨#[]⟩, .int .i64 0, .int .i64 0] : Array Value).size) := hid (there_off PB1.out.res 0 (Nat.le_refl _))
                have E2 : Hid ((Tryz.prog.info? 64).map (·.size) = some (#[.string ⟨#[]⟩, .string ⟨#[]⟩, .int .i64 0, .int .i64 0] : Array Value).size) := Tryz.size64
                have E3 : Hid ((#[.string ⟨#[]⟩, .string ⟨#[]⟩, .int .i64 0, .int .i64 0] : Array Value).all (·.oneCell') = true) := hid (all_oneCell_toArray (fun v hv => by simp only [List.mem_cons, List.not_mem_nil, or_false] at hv; rcases hv with rfl | rfl | rfl | rfl <;> rfl))
                go_wp2_with (refine wpList_store_mid rfl 64 _ _ rfl G 0 #[.string ⟨#[]⟩, .string ⟨#[]⟩, .int .i64 0, .int .i64 0] rfl rfl E1.out E2.out E3.out ?_)
                refine bodyPost_ret (v := .tuple #[.agg #[.string ⟨#[]⟩, .string ⟨#[]⟩, .int .i64 0, .int .i64 0], .bool false]) (results_mid2 Tryz.results109 _ _ G (#[.string ⟨#[]⟩, .string ⟨#[]⟩, .int .i64 0, .int .i64 0] : Array Value).toList _ rfl (World.rangeAt_setCells_same w1 G 0 _ E1.out) Tryz.underlying64 rfl Tryz.size64) rfl ⟨?_, ?_⟩
                · rw [HG.out]; exact below_setCells (Nat.le_refl _) _ _ _ _ PB1.out.below
                · exact NOP.out HNO.out
              have hso : o + 1 ≤ sh := by
                rcases Nat.lt_or_ge o sh with h | h
                · exact h
                · have e2 : sh = o := by omega
                  have h3 := HS2.out
                  rw [e2, HO2.out] at h3
                  simp at h3
              have h9n : sh + 9 ≤ n := by omega
              have ho1n : 1 ≤ o := by omega
              obtain ⟨a1, Q1⟩ : ∃ l, Hid (s.take (o - 1) = l) := ⟨_, rfl⟩
              obtain ⟨A1, R1⟩ : ∃ S : ByteArray, Hid (⟨a1.toArray⟩ = S) := ⟨_, rfl⟩
              obtain ⟨a2, Q2⟩ : ∃ l, Hid ((s.drop (o + 1)).take (sh - (o + 1)) = l) := ⟨_, rfl⟩
              obtain ⟨A2, R2⟩ : ∃ S : ByteArray, Hid (⟨a2.toArray⟩ = S) := ⟨_, rfl⟩
              obtain ⟨a3, Q3⟩ : ∃ l, Hid ((s.drop (sh + 2)).take (n - 6 - (sh + 2)) = l) := ⟨_, rfl⟩
              obtain ⟨A3, R3⟩ : ∃ S : ByteArray, Hid (⟨a3.toArray⟩ = S) := ⟨_, rfl⟩
              obtain ⟨a4, Q4⟩ : ∃ l, Hid ((s.drop (n - 4)).take 2 = l) := ⟨_, rfl⟩
              obtain ⟨A4, R4⟩ : ∃ S : ByteArray, Hid (⟨a4.toArray⟩ = S) := ⟨_, rfl⟩
              obtain ⟨a5, Q5⟩ : ∃ l, Hid (s.drop (n - 2) = l) := ⟨_, rfl⟩
              obtain ⟨A5, R5⟩ : ∃ S : ByteArray, Hid (⟨a5.toArray⟩ = S) := ⟨_, rfl⟩
              have q4 : Hid (a4.length = 2) := hid (by rw [← Q4.out, List.length_take, List.length_drop, HN.out]; omega)
              have q5 : Hid (a5.length = 2) := hid (by rw [← Q5.out, List.length_drop, HN.out]; omega)
              have z4 : A4.size = 2 := by rw [← R4.out, txt_len]; exact q4.out
              have z5 : A5.size = 2 := by rw [← R5.out, txt_len]; exact q5.out
              have l49 : (⟨#[49]⟩ : ByteArray).size = 1 := rfl
              obtain ⟨B4, HB4⟩ : ∃ A : ByteArray, ⟨#[49]⟩ ++ A4 = A := ⟨_, rfl⟩
              obtain ⟨B5, HB5⟩ : ∃ A : ByteArray, ⟨#[49]⟩ ++ A5 = A := ⟨_, rfl⟩
              have T4 : Hid (⟨(49 :: a4).toArray⟩ = B4) := hid (by rw [← HB4, ← R4.out, show (⟨#[49]⟩ : ByteArray) = ⟨[49].toArray⟩ from rfl, str_add]; rfl)
              have T5 : Hid (⟨(49 :: a5).toArray⟩ = B5) := hid (by rw [← HB5, ← R5.out, show (⟨#[49]⟩ : ByteArray) = ⟨[49].toArray⟩ from rfl, str_add]; rfl)
              have hs0 : ∀ W, (Instr.slice 9 (.string S) none (some (.int .i64 ((o : Int) - 1))) none).run Tryz.prog W = .ok (.string A1) W := fun W => by
                rw [← HS.out, ← R1.out, ← Q1.out, show ((o : Int) - 1) = ((o - 1 : Nat) : Int) from by omega]; exact slice_to s (o - 1) (by rw [HN.out]; omega) W
              have hs1 : ∀ W, (Instr.slice 9 (.string S) (some (.int .i64 ((o : Int) + 1))) (some (.int .i64 sh)) none).run Tryz.prog W = .ok (.string A2) W := fun W => by
                rw [← HS.out, ← R2.out, ← Q2.out]; exact slice_mid s (o + 1) sh hso (by rw [HN.out]; omega) W
              have hs2 : ∀ W, (Instr.slice 9 (.string S) (some (.int .i64 ((sh : Int) + 2))) (some (.int .i64 ((n : Int) - 6))) none).run Tryz.prog W = .ok (.string A3) W := fun W => by
                rw [← HS.out, ← R3.out, ← Q3.out, show ((n : Int) - 6) = ((n - 6 : Nat) : Int) from by omega]; exact slice_mid s (sh + 2) (n - 6) (by omega) (by rw [HN.out]; omega) W
              have hs3 : ∀ W, (Instr.slice 9 (.string S) (some (.int .i64 ((n : Int) - 4))) (some (.int .i64 ((n : Int) - 2))) none).run Tryz.prog W = .ok (.string A4) W := fun W => by
                rw [← HS.out, ← R4.out, ← Q4.out, show ((n : Int) - 4) = ((n - 4 : Nat) : Int) from by omega, show ((n : Int) - 2) = ((n - 2 : Nat) : Int) from by omega]
                have h := slice_mid s (n - 4) (n - 2) (by omega) (by rw [HN.out]; omega) W
                rw [show n - 2 - (n - 4) = 2 from by omega] at h
                exact h
              have hs4 : ∀ W, (Instr.slice 9 (.string S) (some (.int .i64 ((n : Int) - 2))) none none).run Tryz.prog W = .ok (.string A5) W := fun W => by
                rw [← HS.out, ← R5.out, ← Q5.out, show ((n : Int) - 2) = ((n - 2 : Nat) : Int) from by omega]; exact slice_from s (n - 2) (by rw [HN.out]; omega) W
              have N3 : Hid (∀ W, Calls Tryz.prog 143 #[.string A3] W fun e w' => w' = W ∧ PostN a3 e) := fun W => by rw [← R3.out]; exact numberR_any a3 W
              have N4 : Hid (∀ W, Calls Tryz.prog 143 #[.string B4] W fun e w' => w' = W ∧ PostN (49 :: a4) e) := fun W => by rw [← T4.out]; exact numberR_any _ W
              have N5 : Hid (∀ W, Calls Tryz.prog 143 #[.string B5] W fun e w' => w' = W ∧ PostN (49 :: a5) e) := fun W => by rw [← T5.out]; exact numberR_any _ W
              obtain ⟨y5, hy5⟩ : ∃ x, s[n - 5]? = some x := ⟨_, List.getElem?_eq_getElem (by rw [HN.out]; omega)⟩
              obtain ⟨d5, HD5⟩ : ∃ c, Hid ((y5.toNat : Int) = c) := ⟨_, rfl⟩
              have HY5 : Hid (s[n - 5]? = some y5) := hy5
              have hi5 : ∀ w1 : World, (Instr.index 9 (.string S) (.int .i64 ((n : Int) - 5))).run Tryz.prog w1 = .ok (.int .u8 d5) w1 := fun w1 => by rw [← HS.out, ← HD5.out, show ((n : Int) - 5) = ((n - 5 : Nat) : Int) from by omega]; exact index_txt s (n - 5) w1 y5 HY5.out
              clear hy5
              obtain ⟨c0, c1, c2, c3, cf⟩ := PB1.out.cells
              go_wp2_with fail
              have PB2 : Hid (PB G A1 A2 0 0 w ((w1.setCell ⟨G + 1, 0, none⟩ (.string A1)).setCell ⟨G + 1, 1, none⟩ (.string A2))) := (PB1.out.step (A' := A1) (B' := ⟨#[]⟩) (T' := 0) (Z' := 0) 0 _ rfl).step 1 _ rfl
              generalize (w1.setCell ⟨G + 1, 0, none⟩ (.string A1)).setCell ⟨G + 1, 1, none⟩ (.string A2) = w2 at PB2 ⊢
              clear c0 c1 c2 c3 cf hs0 hs1 hs2
              refine (N3.out w2).mono ?_
              rintro ev w2' ⟨hw2, v, rfl, hv⟩
              have hw2' := hw2.symm
              subst hw2'
              clear hw2
              have HV : Hid (NuP a3 v) := hv
              clear hv
              obtain ⟨c0, c1, c2, c3, cf⟩ := PB2.out.cells
              go_wp2_with fail
              have PB3 : Hid (PB G A1 A2 v 0 w (w2.setCell ⟨G + 1, 2, none⟩ (.int .i64 v))) := PB2.out.step 2 _ rfl
              generalize w2.setCell ⟨G + 1, 2, none⟩ (.int .i64 v) = w3 at PB3 ⊢
              clear c0 c1 c2 c3 cf hs3
              refine (N4.out w3).mono ?_
              rintro ev w3' ⟨hw3, h, rfl, hh⟩
              have hw3' := hw3.symm
              subst hw3'
              clear hw3
              have HH : Hid (NuP (49 :: a4) h) := hh
              clear hh
              go_wp2_with fail
              refine (N5.out w3).mono ?_
              rintro ev w3' ⟨hw3, m, rfl, hm⟩
              have hw3' := hw3.symm
              subst hw3'
              clear hw3 hs4
              have HM : Hid (NuP (49 :: a5) m) := hm
              clear hm
              obtain ⟨c0, c1, c2, c3, cf⟩ := PB3.out.cells
              have HQV : Hid (∀ q, okP q → perB q = s → a1 = q.name ∧ a2 = q.mail ∧ v = (q.time.toNat : Int) ∧ h = 100 + (zh q : Int) ∧ m = 100 + (zm q : Int) ∧ y5 = zs q) := fun q g1 g2 => by
                obtain ⟨-, -, -, t1, t2, t3, t4, t5, t6⟩ := HPT.out q g1 g2
                rw [HN.out] at t3 t4 t5 t6
                rw [Q1.out] at t1
                rw [Q2.out] at t2
                rw [Q3.out] at t3
                rw [Q4.out] at t4
                rw [Q5.out] at t5
                have u1 := HV.out
                have u2 := HH.out
                have u3 := HM.out
                rw [t3] at u1
                rw [t4] at u2
                rw [t5] at u3
                have b1 := g1.2.2.1
                have b2 := g1.2.2.2
                have k1 : zh q < 100 := by unfold zh; omega
                have k2 : zm q < 100 := by unfold zm; omega
                refine ⟨t1, t2, num_dig (by omega) u1, num_two k1 u2, num_two k2 u3, ?_⟩
                rw [HY5.out] at t6
                exact Option.some.inj t6
              have HPV : Hid (∀ z, perV ⟨a1, a2, v, z⟩ = #[.string A1, .string A2, .int .i64 v, .int .i64 z]) := fun z => by unfold perV; rw [← R1.out, ← R2.out]
              have NO2 : Hid ((∀ q, okP q → perB q ≠ s) → PostRP s (.returned (.tuple #[.agg #[.string A1, .string A2, .int .i64 v, .int .i64 0], .bool false]))) := fun h => ⟨⟨a1, a2, v, 0⟩, false, by rw [HPV.out], (fun h => by cases h), fun q h1 h2 => absurd h2 (h q h1)⟩
              by_cases hh0 : h < 0
              · have HNO : Hid (∀ q, okP q → perB q ≠ s) := fun q g1 g2 => by have := (HQV.out q g1 g2).2.2.2.1; omega
                have E1 : Hid (w3.there G 0 (#[.string A1, .string A2, .int .i64 v, .int .i64 0] : Array Value).size) := hid (there_off PB3.out.res 0 (Nat.le_refl _))
                have E2 : Hid ((Tryz.prog.info? 64).map (·.size) = some (#[.string A1, .string A2, .int .i64 v, .int .i64 0] : Array Value).size) := Tryz.size64
                have E3 : Hid ((#[.string A1, .string A2, .int .i64 v, .int .i64 0] : Array Value).all (·.oneCell') = true) := hid (all_oneCell_toArray (fun v hv => by simp only [List.mem_cons, List.not_mem_nil, or_false] at hv; rcases hv with rfl | rfl | rfl | rfl <;> rfl))
                go_wp2_with (refine wpList_store_mid rfl 64 _ _ rfl G 0 #[.string A1, .string A2, .int .i64 v, .int .i64 0] rfl rfl E1.out E2.out E3.out ?_)
                refine bodyPost_ret (v := .tuple #[.agg #[.string A1, .string A2, .int .i64 v, .int .i64 0], .bool false]) (results_mid2 Tryz.results109 _ _ G (#[.string A1, .string A2, .int .i64 v, .int .i64 0] : Array Value).toList _ rfl (World.rangeAt_setCells_same w3 G 0 _ E1.out) Tryz.underlying64 rfl Tryz.size64) rfl ⟨?_, ?_⟩
                · rw [HG.out]; exact below_setCells (Nat.le_refl _) _ _ _ _ PB3.out.below
                · exact NO2.out HNO.out
              by_cases hm0 : m < 0
              · have HNO : Hid (∀ q, okP q → perB q ≠ s) := fun q g1 g2 => by have := (HQV.out q g1 g2).2.2.2.2.1; omega
                have E1 : Hid (w3.there G 0 (#[.string A1, .string A2, .int .i64 v, .int .i64 0] : Array Value).size) := hid (there_off PB3.out.res 0 (Nat.le_refl _))
                have E2 : Hid ((Tryz.prog.info? 64).map (·.size) = some (#[.string A1, .string A2, .int .i64 v, .int .i64 0] : Array Value).size) := Tryz.size64
                have E3 : Hid ((#[.string A1, .string A2, .int .i64 v, .int .i64 0] : Array Value).all (·.oneCell') = true) := hid (all_oneCell_toArray (fun v hv => by simp only [List.mem_cons, List.not_mem_nil, or_false] at hv; rcases hv with rfl | rfl | rfl | rfl <;> rfl))
                go_wp2_with (refine wpList_store_mid rfl 64 _ _ rfl G 0 #[.string A1, .string A2, .int .i64 v, .int .i64 0] rfl rfl E1.out E2.out E3.out ?_)
                refine bodyPost_ret (v := .tuple #[.agg #[.string A1, .string A2, .int .i64 v, .int .i64 0], .bool false]) (results_mid2 Tryz.results109 _ _ G (#[.string A1, .string A2, .int .i64 v, .int .i64 0] : Array Value).toList _ rfl (World.rangeAt_setCells_same w3 G 0 _ E1.out) Tryz.underlying64 rfl Tryz.size64) rfl ⟨?_, ?_⟩
                · rw [HG.out]; exact below_setCells (Nat.le_refl _) _ _ _ _ PB3.out.below
                · exact NO2.out HNO.out
              have hb1 : 0 ≤ h ∧ h < 1000 := by
                rcases num_three (by simp [q4.out]) HH.out with h | h
                · omega
                · exact h
              have hb2 : 0 ≤ m ∧ m < 1000 := by
                rcases num_three (by simp [q5.out]) HM.out with h | h
                · omega
                · exact h
              obtain ⟨hb1, hb1'⟩ := hb1
              obtain ⟨hb2, hb2'⟩ := hb2
              obtain ⟨z, HZ⟩ : ∃ z, Hid (z = (h - 100) * 60 + m - 100) := ⟨_, rfl⟩
              have hzz : (h - 100) * 60 + m - 100 = z := HZ.out.symm
              have hz1 : -10000 ≤ z := by rw [HZ.out]; omega
              have hz2 : z ≤ 100000 := by rw [HZ.out]; omega
              by_cases h45 : d5 = 45
              · have HSG : Hid (y5 = 45) := hid ((u8_ne (n := 45) (by decide)).1 (HD5.out.trans h45))
                clear HD5
                subst h45
                have HPQ : Hid (∀ q, okP q → perB q = s → (⟨a1, a2, v, (-z)⟩ : Per) = q) := fun q g1 g2 => by
                  obtain ⟨t1, t2, t3, t4, t5, t6⟩ := HQV.out q g1 g2
                  refine per_back q g1 z (by rw [HZ.out, t4, t5]) _ t1 t2 t3 (fun g => ?_) (fun g => ?_)
                  · rfl
                  · exact absurd (t6.symm.trans HSG.out) g
                have CX : Hid (∀ W, Calls Tryz.prog 58 #[.agg #[.string A1, .string A2, .int .i64 v, .int .i64 (-z)]] W (PostX ⟨a1, a2, v, (-z)⟩ W)) := fun W => by rw [← HPV.out]; exact text_any _ W
                go_wp2_with fail
                have PB4 : Hid (PB G A1 A2 v (-z) w ((w3.setCell ⟨G + 1, 3, none⟩ (.int .i64 z)).setCell ⟨G + 1, 3, none⟩ (.int .i64 (-z)))) := (PB3.out.step (A' := A1) (B' := A2) (T' := v) (Z' := z) 3 _ rfl).step 3 _ rfl
                generalize (w3.setCell ⟨G + 1, 3, none⟩ (.int .i64 z)).setCell ⟨G + 1, 3, none⟩ (.int .i64 (-z)) = w4 at PB4 ⊢
                clear c0 c1 c2 c3 cf
                refine (CX.out w4).mono ?_
                rintro ev w5 ⟨hb5, hor⟩
                have PB5 : Hid (PB G A1 A2 v (-z) w w5) := PB4.out.grow hb5
                clear hb5
                obtain ⟨c0, c1, c2, c3, cf⟩ := PB5.out.cells
                rcases hor with ⟨hok, rfl⟩ | ⟨hno, rfl⟩
                · have HOK : Hid (okP ⟨a1, a2, v, (-z)⟩) := hok
                  clear hok
                  obtain ⟨TX, HTX⟩ : ∃ S : ByteArray, Hid (⟨(perB ⟨a1, a2, v, (-z)⟩).toArray⟩ = S) := ⟨_, rfl⟩
                  rw [HTX.out]
                  obtain ⟨bq, heq⟩ : ∃ b : Bool, (TX.toList == S.toList) = b := ⟨_, rfl⟩
                  have HEI : Hid (bq = true ↔ perB ⟨a1, a2, v, (-z)⟩ = s) := hid (by
                    rw [← heq, ← HTX.out, ← HS.out, Lib.toList_data, Lib.toList_data]
                    simp)
                  have FIN : Hid (PostRP s (.returned (.tuple #[.agg #[.string A1, .string A2, .int .i64 v, .int .i64 (-z)], .bool bq]))) := ⟨⟨a1, a2, v, (-z)⟩, bq, by rw [HPV.out], fun h => ⟨HOK.out, HEI.out.1 h⟩, fun q g1 g2 => HEI.out.2 (by rw [HPQ.out q g1 g2]; exact g2)⟩
                  clear HEI
                  have E1 : Hid (w5.there G 0 (#[.string A1, .string A2, .int .i64 v, .int .i64 (-z)] : Array Value).size) := hid (there_off PB5.out.res 0 (Nat.le_refl _))
                  have E2 : Hid ((Tryz.prog.info? 64).map (·.size) = some (#[.string A1, .string A2, .int .i64 v, .int .i64 (-z)] : Array Value).size) := Tryz.size64
                  have E3 : Hid ((#[.string A1, .string A2, .int .i64 v, .int .i64 (-z)] : Array Value).all (·.oneCell') = true) := hid (all_oneCell_toArray (fun v hv => by simp only [List.mem_cons, List.not_mem_nil, or_false] at hv; rcases hv with rfl | rfl | rfl | rfl <;> rfl))
                  go_wp2_with (refine wpList_store_mid rfl 64 _ _ rfl G 0 #[.string A1, .string A2, .int .i64 v, .int .i64 (-z)] rfl rfl E1.out E2.out E3.out ?_)
                  refine bodyPost_ret (v := .tuple #[.agg #[.string A1, .string A2, .int .i64 v, .int .i64 (-z)], .bool bq]) (results_mid2 Tryz.results109 _ _ G (#[.string A1, .string A2, .int .i64 v, .int .i64 (-z)] : Array Value).toList _ rfl (World.rangeAt_setCells_same w5 G 0 _ E1.out) Tryz.underlying64 rfl Tryz.size64) rfl ⟨?_, ?_⟩
                  · rw [HG.out]; exact below_setCells (Nat.le_refl _) _ _ _ _ PB5.out.below
                  · exact FIN.out
                · have HNK : Hid (¬ okP ⟨a1, a2, v, (-z)⟩) := hno
                  clear hno
                  have FIN : Hid (PostRP s (.returned (.tuple #[.agg #[.string A1, .string A2, .int .i64 v, .int .i64 (-z)], .bool false]))) := ⟨⟨a1, a2, v, (-z)⟩, false, by rw [HPV.out], (fun h => by cases h), fun q g1 g2 => absurd (by rw [HPQ.out q g1 g2]; exact g1) HNK.out⟩
                  have E1 : Hid (w5.there G 0 (#[.string A1, .string A2, .int .i64 v, .int .i64 (-z)] : Array Value).size) := hid (there_off PB5.out.res 0 (Nat.le_refl _))
                  have E2 : Hid ((Tryz.prog.info? 64).map (·.size) = some (#[.string A1, .string A2, .int .i64 v, .int .i64 (-z)] : Array Value).size) := Tryz.size64
                  have E3 : Hid ((#[.string A1, .string A2, .int .i64 v, .int .i64 (-z)] : Array Value).all (·.oneCell') = true) := hid (all_oneCell_toArray (fun v hv => by simp only [List.mem_cons, List.not_mem_nil, or_false] at hv; rcases hv with rfl | rfl | rfl | rfl <;> rfl))
                  go_wp2_with (refine wpList_store_mid rfl 64 _ _ rfl G 0 #[.string A1, .string A2, .int .i64 v, .int .i64 (-z)] rfl rfl E1.out E2.out E3.out ?_)
                  refine bodyPost_ret (v := .tuple #[.agg #[.string A1, .string A2, .int .i64 v, .int .i64 (-z)], .bool false]) (results_mid2 Tryz.results109 _ _ G (#[.string A1, .string A2, .int .i64 v, .int .i64 (-z)] : Array Value).toList _ rfl (World.rangeAt_setCells_same w5 G 0 _ E1.out) Tryz.underlying64 rfl Tryz.size64) rfl ⟨?_, ?_⟩
                  · rw [HG.out]; exact below_setCells (Nat.le_refl _) _ _ _ _ PB5.out.below
                  · exact FIN.out
              · have HSG : Hid (y5 ≠ 45) := fun e => h45 (HD5.out.symm.trans (by rw [e]; rfl))
                have h45b : (d5 == 45) = false := by simpa using h45
                have HPQ : Hid (∀ q, okP q → perB q = s → (⟨a1, a2, v, z⟩ : Per) = q) := fun q g1 g2 => by
                  obtain ⟨t1, t2, t3, t4, t5, t6⟩ := HQV.out q g1 g2
                  refine per_back q g1 z (by rw [HZ.out, t4, t5]) _ t1 t2 t3 (fun g => ?_) (fun g => ?_)
                  · exact absurd (t6.trans g) HSG.out
                  · rfl
                have CX : Hid (∀ W, Calls Tryz.prog 58 #[.agg #[.string A1, .string A2, .int .i64 v, .int .i64 z]] W (PostX ⟨a1, a2, v, z⟩ W)) := fun W => by rw [← HPV.out]; exact text_any _ W
                go_wp2_with fail
                have PB4 : Hid (PB G A1 A2 v z w (w3.setCell ⟨G + 1, 3, none⟩ (.int .i64 z))) := PB3.out.step 3 _ rfl
                generalize w3.setCell ⟨G + 1, 3, none⟩ (.int .i64 z) = w4 at PB4 ⊢
                clear c0 c1 c2 c3 cf
                refine (CX.out w4).mono ?_
                rintro ev w5 ⟨hb5, hor⟩
                have PB5 : Hid (PB G A1 A2 v z w w5) := PB4.out.grow hb5
                clear hb5
                obtain ⟨c0, c1, c2, c3, cf⟩ := PB5.out.cells
                rcases hor with ⟨hok, rfl⟩ | ⟨hno, rfl⟩
                · have HOK : Hid (okP ⟨a1, a2, v, z⟩) := hok
                  clear hok
                  obtain ⟨TX, HTX⟩ : ∃ S : ByteArray, Hid (⟨(perB ⟨a1, a2, v, z⟩).toArray⟩ = S) := ⟨_, rfl⟩
                  rw [HTX.out]
                  obtain ⟨bq, heq⟩ : ∃ b : Bool, (TX.toList == S.toList) = b := ⟨_, rfl⟩
                  have HEI : Hid (bq = true ↔ perB ⟨a1, a2, v, z⟩ = s) := hid (by
                    rw [← heq, ← HTX.out, ← HS.out, Lib.toList_data, Lib.toList_data]
                    simp)
                  have FIN : Hid (PostRP s (.returned (.tuple #[.agg #[.string A1, .string A2, .int .i64 v, .int .i64 z], .bool bq]))) := ⟨⟨a1, a2, v, z⟩, bq, by rw [HPV.out], fun h => ⟨HOK.out, HEI.out.1 h⟩, fun q g1 g2 => HEI.out.2 (by rw [HPQ.out q g1 g2]; exact g2)⟩
                  clear HEI
                  have E1 : Hid (w5.there G 0 (#[.string A1, .string A2, .int .i64 v, .int .i64 z] : Array Value).size) := hid (there_off PB5.out.res 0 (Nat.le_refl _))
                  have E2 : Hid ((Tryz.prog.info? 64).map (·.size) = some (#[.string A1, .string A2, .int .i64 v, .int .i64 z] : Array Value).size) := Tryz.size64
                  have E3 : Hid ((#[.string A1, .string A2, .int .i64 v, .int .i64 z] : Array Value).all (·.oneCell') = true) := hid (all_oneCell_toArray (fun v hv => by simp only [List.mem_cons, List.not_mem_nil, or_false] at hv; rcases hv with rfl | rfl | rfl | rfl <;> rfl))
                  go_wp2_with (refine wpList_store_mid rfl 64 _ _ rfl G 0 #[.string A1, .string A2, .int .i64 v, .int .i64 z] rfl rfl E1.out E2.out E3.out ?_)
                  refine bodyPost_ret (v := .tuple #[.agg #[.string A1, .string A2, .int .i64 v, .int .i64 z], .bool bq]) (results_mid2 Tryz.results109 _ _ G (#[.string A1, .string A2, .int .i64 v, .int .i64 z] : Array Value).toList _ rfl (World.rangeAt_setCells_same w5 G 0 _ E1.out) Tryz.underlying64 rfl Tryz.size64) rfl ⟨?_, ?_⟩
                  · rw [HG.out]; exact below_setCells (Nat.le_refl _) _ _ _ _ PB5.out.below
                  · exact FIN.out
                · have HNK : Hid (¬ okP ⟨a1, a2, v, z⟩) := hno
                  clear hno
                  have FIN : Hid (PostRP s (.returned (.tuple #[.agg #[.string A1, .string A2, .int .i64 v, .int .i64 z], .bool false]))) := ⟨⟨a1, a2, v, z⟩, false, by rw [HPV.out], (fun h => by cases h), fun q g1 g2 => absurd (by rw [HPQ.out q g1 g2]; exact g1) HNK.out⟩
                  have E1 : Hid (w5.there G 0 (#[.string A1, .string A2, .int .i64 v, .int .i64 z] : Array Value).size) := hid (there_off PB5.out.res 0 (Nat.le_refl _))
                  have E2 : Hid ((Tryz.prog.info? 64).map (·.size) = some (#[.string A1, .string A2, .int .i64 v, .int .i64 z] : Array Value).size) := Tryz.size64
                  have E3 : Hid ((#[.string A1, .string A2, .int .i64 v, .int .i64 z] : Array Value).all (·.oneCell') = true) := hid (all_oneCell_toArray (fun v hv => by simp only [List.mem_cons, List.not_mem_nil, or_false] at hv; rcases hv with rfl | rfl | rfl | rfl <;> rfl))
                  go_wp2_with (refine wpList_store_mid rfl 64 _ _ rfl G 0 #[.string A1, .string A2, .int .i64 v, .int .i64 z] rfl rfl E1.out E2.out E3.out ?_)
                  refine bodyPost_ret (v := .tuple #[.agg #[.string A1, .string A2, .int .i64 v, .int .i64 z], .bool false]) (results_mid2 Tryz.results109 _ _ G (#[.string A1, .string A2, .int .i64 v, .int .i64 z] : Array Value).toList _ rfl (World.rangeAt_setCells_same w5 G 0 _ E1.out) Tryz.underlying64 rfl Tryz.size64) rfl ⟨?_, ?_⟩
                  · rw [HG.out]; exact below_setCells (Nat.le_refl _) _ _ _ _ PB5.out.below
                  · exact FIN.out
            · have hdb : (d != 62) = true := by simpa using hd
              go_wp2
              go_roundg (n - (sh + 1))
              case measure => omega
              case rel =>
                refine ⟨sh + 1, by omega, by omega, rfl, by go_num, hid ?_, hid rfl⟩
                rw [take_snoc8 s sh y HY.out, List.drop_append_of_le_length (by rw [List.length_take, HN.out]; omega)]
                intro u hu
                rcases List.mem_append.1 hu with hu | hu
                · exact HT2.out u hu
                · have : u = y := by simpa using hu
                  subst this
                  rintro rfl
                  exact hd (HD.out.symm.trans rfl)
          · have hlti2 : ¬ (sh : Int) < (n : Int) := by omega
            have hge2 : (n : Int) ≤ (sh : Int) := by omega
            have HNO : Hid (∀ q, okP q → perB q ≠ s) := fun q h1 h2 => by
              have h3 := per_parts q h1 s h2 o sh HT.out (.inr HO2.out) hsh1 HT2.out (.inl (by rw [HN.out]; omega))
              have h4 := h3.2.2.1
              rw [HN.out] at h4
              omega
            obtain ⟨c0, c1, c2, c3, cf⟩ := PB1.out.cells
            by_cases ho1 : (o : Int) < 1
            · have E1 : Hid (w1.there G 0 (#[.string ⟨#[]⟩, .string ⟨#[]⟩, .int .i64 0, .int .i64 0] : Array Value).size) := hid (there_off PB1.out.res 0 (Nat.le_refl _))
              have E2 : Hid ((Tryz.prog.info? 64).map (·.size) = some (#[.string ⟨#[]⟩, .string ⟨#[]⟩, .int .i64 0, .int .i64 0] : Array Value).size) := Tryz.size64
              have E3 : Hid ((#[.string ⟨#[]⟩, .string ⟨#[]⟩, .int .i64 0, .int .i64 0] : Array Value).all (·.oneCell') = true) := hid (all_oneCell_toArray (fun v hv => by simp only [List.mem_cons, List.not_mem_nil, or_false] at hv; rcases hv with rfl | rfl | rfl | rfl <;> rfl))
              go_wp2_with (refine wpList_store_mid rfl 64 _ _ rfl G 0 #[.string ⟨#[]⟩, .string ⟨#[]⟩, .int .i64 0, .int .i64 0] rfl rfl E1.out E2.out E3.out ?_)
              refine bodyPost_ret (v := .tuple #[.agg #[.string ⟨#[]⟩, .string ⟨#[]⟩, .int .i64 0, .int .i64 0], .bool false]) (results_mid2 Tryz.results109 _ _ G (#[.string ⟨#[]⟩, .string ⟨#[]⟩, .int .i64 0, .int .i64 0] : Array Value).toList _ rfl (World.rangeAt_setCells_same w1 G 0 _ E1.out) Tryz.underlying64 rfl Tryz.size64) rfl ⟨?_, ?_⟩
              · rw [HG.out]; exact below_setCells (Nat.le_refl _) _ _ _ _ PB1.out.below
              · exact NOP.out HNO.out
            · have E1 : Hid (w1.there G 0 (#[.string ⟨#[]⟩, .string ⟨#[]⟩, .int .i64 0, .int .i64 0] : Array Value).size) := hid (there_off PB1.out.res 0 (Nat.le_refl _))
              have E2 : Hid ((Tryz.prog.info? 64).map (·.size) = some (#[.string ⟨#[]⟩, .string ⟨#[]⟩, .int .i64 0, .int .i64 0] : Array Value).size) := Tryz.size64
              have E3 : Hid ((#[.string ⟨#[]⟩, .string ⟨#[]⟩, .int .i64 0, .int .i64 0] : Array Value).all (·.oneCell') = true) := hid (all_oneCell_toArray (fun v hv => by simp only [List.mem_cons, List.not_mem_nil, or_false] at hv; rcases hv with rfl | rfl | rfl | rfl <;> rfl))
              go_wp2_with (refine wpList_store_mid rfl 64 _ _ rfl G 0 #[.string ⟨#[]⟩, .string ⟨#[]⟩, .int .i64 0, .int .i64 0] rfl rfl E1.out E2.out E3.out ?_)
              refine bodyPost_ret (v := .tuple #[.agg #[.string ⟨#[]⟩, .string ⟨#[]⟩, .int .i64 0, .int .i64 0], .bool false]) (results_mid2 Tryz.results109 _ _ G (#[.string ⟨#[]⟩, .string ⟨#[]⟩, .int .i64 0, .int .i64 0] : Array Value).toList _ rfl (World.rangeAt_setCells_same w1 G 0 _ E1.out) Tryz.underlying64 rfl Tryz.size64) rfl ⟨?_, ?_⟩
              · rw [HG.out]; exact below_setCells (Nat.le_refl _) _ _ _ _ PB1.out.below
              · exact NOP.out HNO.out
      · have hcb : (c != 60) = true := by simpa using hc
        go_wp2
        go_roundg (n - (o + 1))
        case measure => omega
        case rel =>
          refine ⟨o + 1, by omega, rfl, by go_num, hid ?_, hid rfl⟩
          rw [take_snoc8 s o x HX.out]
          intro u hu
          rcases List.mem_append.1 hu with hu | hu
          · exact HT.out u hu
          · have : u = x := by simpa using hu
            subst this
            rintro rfl
            exact hc (HC.out.symm.trans rfl)
    · have hlti : ¬ (o : Int) < (n : Int) := by omega
      go_wp2
      go_loopg [6] (n - o) (fun g i wr => ∃ sh : Nat, o ≤ sh ∧ sh ≤ n ∧ g = n - sh ∧ i = .int .i64 sh ∧ Hid (∀ x ∈ (s.take sh).drop o, x ≠ 62) ∧ Hid (wr = w1))
      case atStart => exact ⟨o, by omega, by omega, rfl, rfl, hid (by simp), hid rfl⟩
      case round =>
        obtain ⟨sh, hsh1, hsh, hk2, rfl, HT2, HWR⟩ := hrel
        have h2 : w1 = wr := HWR.out.symm
        subst h2
        clear HWR
        have hlti2 : ¬ (sh : Int) < (n : Int) := by omega
        have hge2 : (n : Int) ≤ (sh : Int) := by omega
        have HNO : Hid (∀ q, okP q → perB q ≠ s) := fun q h1 h2 => by
          have h3 := per_parts q h1 s h2 o sh HT.out (.inl (by rw [HN.out]; omega)) hsh1 HT2.out (.inl (by rw [HN.out]; omega))
          have h4 := h3.2.2.1
          rw [HN.out] at h4
          omega
        obtain ⟨c0, c1, c2, c3, cf⟩ := PB1.out.cells
        by_cases ho1 : (o : Int) < 1
        · have E1 : Hid (w1.there G 0 (#[.string ⟨#[]⟩, .string ⟨#[]⟩, .int .i64 0, .int .i64 0] : Array Value).size) := hid (there_off PB1.out.res 0 (Nat.le_refl _))
          have E2 : Hid ((Tryz.prog.info? 64).map (·.size) = some (#[.string ⟨#[]⟩, .string ⟨#[]⟩, .int .i64 0, .int .i64 0] : Array Value).size) := Tryz.size64
          have E3 : Hid ((#[.string ⟨#[]⟩, .string ⟨#[]⟩, .int .i64 0, .int .i64 0] : Array Value).all (·.oneCell') = true) := hid (all_oneCell_toArray (fun v hv => by simp only [List.mem_cons, List.not_mem_nil, or_false] at hv; rcases hv with rfl | rfl | rfl | rfl <;> rfl))
          go_wp2_with (refine wpList_store_mid rfl 64 _ _ rfl G 0 #[.string ⟨#[]⟩, .string ⟨#[]⟩, .int .i64 0, .int .i64 0] rfl rfl E1.out E2.out E3.out ?_)
          refine bodyPost_ret (v := .tuple #[.agg #[.string ⟨#[]⟩, .string ⟨#[]⟩, .int .i64 0, .int .i64 0], .bool false]) (results_mid2 Tryz.results109 _ _ G (#[.string ⟨#[]⟩, .string ⟨#[]⟩, .int .i64 0, .int .i64 0] : Array Value).toList _ rfl (World.rangeAt_setCells_same w1 G 0 _ E1.out) Tryz.underlying64 rfl Tryz.size64) rfl ⟨?_, ?_⟩
          · rw [HG.out]; exact below_setCells (Nat.le_refl _) _ _ _ _ PB1.out.below
          · exact NOP.out HNO.out
        · have E1 : Hid (w1.there G 0 (#[.string ⟨#[]⟩, .string ⟨#[]⟩, .int .i64 0, .int .i64 0] : Array Value).size) := hid (there_off PB1.out.res 0 (Nat.le_refl _))
          have E2 : Hid ((Tryz.prog.info? 64).map (·.size) = some (#[.string ⟨#[]⟩, .string ⟨#[]⟩, .int .i64 0, .int .i64 0] : Array Value).size) := Tryz.size64
          have E3 : Hid ((#[.string ⟨#[]⟩, .string ⟨#[]⟩, .int .i64 0, .int .i64 0] : Array Value).all (·.oneCell') = true) := hid (all_oneCell_toArray (fun v hv => by simp only [List.mem_cons, List.not_mem_nil, or_false] at hv; rcases hv with rfl | rfl | rfl | rfl <;> rfl))
          go_wp2_with (refine wpList_store_mid rfl 64 _ _ rfl G 0 #[.string ⟨#[]⟩, .string ⟨#[]⟩, .int .i64 0, .int .i64 0] rfl rfl E1.out E2.out E3.out ?_)
          refine bodyPost_ret (v := .tuple #[.agg #[.string ⟨#[]⟩, .string ⟨#[]⟩, .int .i64 0, .int .i64 0], .bool false]) (results_mid2 Tryz.results109 _ _ G (#[.string ⟨#[]⟩, .string ⟨#[]⟩, .int .i64 0, .int .i64 0] : Array Value).toList _ rfl (World.rangeAt_setCells_same w1 G 0 _ E1.out) Tryz.underlying64 rfl Tryz.size64) rfl ⟨?_, ?_⟩
          · rw [HG.out]; exact below_setCells (Nat.le_refl _) _ _ _ _ PB1.out.below
          · exact NOP.out HNO.out
end Go.Proofs.YtenbdeljblmbhaaGreatDoor
/- The document's side of chapter 3: WriteCommit. -/
namespace Go.Proofs.YtenbdeljblmbhaaGreatDoor
open Go.RowKit
set_option linter.unusedVariables false
set_option linter.unusedSimpArgs false
theorem eqItems_any {P : Program} (d : Nat) (e : TypeId) (he : P.plainKey e = true) (hu : P.underlying e = some (.int .u8)) (xs ys : List Int) : ∀ (is : List Nat) (w : World), (∀ j ∈ is, j < xs.length ∧ j < ys.length) → (Op.eqItems (d + 1) e 1 (row .u8 xs).toArray (row .u8 ys).toArray is).run P w = .ok (is.all fun j => xs.getD j 0 == ys.getD j 0) w
  | [], w, _ => by simp [Op.eqItems]
  | j :: is, w, h => by
    have hj := h j (by simp)
    have hp : (part e (row .u8 xs).toArray j).run P w = .ok (.int .u8 (xs.getD j 0)) w := run_part_plain w he (by simpa using row_at .u8 xs j hj.1)
    have hq : (part e (row .u8 ys).toArray j).run P w = .ok (.int .u8 (ys.getD j 0)) w := run_part_plain w he (by simpa using row_at .u8 ys j hj.2)
    have ih := eqItems_any d e he hu xs ys is w (fun k hk => h k (by simp [hk]))
    simp only [Op.eqItems, Sem.run_bind, Nat.mul_one, hp, hq, Result.andThen_ok]
    by_cases hxy : xs.getD j 0 = ys.getD j 0
    · have h2 : xs[j]?.getD 0 = ys[j]?.getD 0 := by simpa using hxy
      simp [go_sem, hu, ih, h2]
    · have h2 : ¬ xs[j]?.getD 0 = ys[j]?.getD 0 := by simpa using hxy
      simp [go_sem, hu, ih, h2]
theorem eq31 (x y : List Int) (hx : x.length = 20) (hy : y.length = 20) (w : World) : (Op.equalIn 10000 31 (.agg (row .u8 x).toArray) (.agg (row .u8 y).toArray)).run Tryz.prog w = .ok (decide (x = y)) w := by
  obtain ⟨i5, hi, -⟩ := info_parts Tryz.info5
  have h1 := eqItems_any (P := Tryz.prog) 9998 5 plain5 Tryz.underlying5 x y (List.range 20) w (fun j hj => by rw [hx, hy]; exact ⟨List.mem_range.1 hj, List.mem_range.1 hj⟩)
  have hall : ((List.range 20).all fun j => x.getD j 0 == y.getD j 0) = decide (x = y) := by
    by_cases h : x = y
    · subst h
      simp
    · rw [decide_eq_false h, Bool.eq_false_iff]
      intro hall
      refine h (List.ext_getElem (by rw [hx, hy]) (fun j h1 h2 => ?_))
      have := List.all_eq_true.1 hall j (List.mem_range.2 (by omega))
      simpa [h1, h2] using this
  rw [hall] at h1
  rw [show (10000 : Nat) = 9999 + 1 from rfl, run_equalIn_array w 9999 _ _ Tryz.underlying31 hi, cells5]
  exact h1
/-- What the document's 'WriteCommit' gives. -/
def PostCR (c : Cm) (w : World) (e : Ending) (w' : World) : Prop := Below w.heap.size w w' ∧
  ((okC c ∧ ∃ g cap : Nat, e = .returned (.tuple #[.slice (some ⟨g, 0, none⟩) (cmB c).length cap, .int .i64 0]) ∧ w.heap.size ≤ g ∧ Mk w' g cap (nums (cmB c))) ∨ (¬ okC c ∧ e = .returned (.tuple #[.slice none 0 0, .int .i64 22])))
/-- The text of a commit's first ids. -/
def headB (c : Cm) (i : Nat) : List UInt8 := ln2 w_tree.data.toList (hexB c.tree) ++ (c.ids.take i).flatMap (fun x => ln2 w_parent.data.toList (hexB x))
theorem headB_snoc (c : Cm) (i : Nat) (h : i < c.ids.length) : headB c (i + 1) = headB c i ++ ln2 w_parent.data.toList (hexB (c.ids.getD i [])) := by
  simp only [headB]
  rw [take_snocI c.ids i h]
  simp
theorem headB_len (c : Cm) (hf : WfC c) (i : Nat) : (headB c i).length ≤ 46 + 48 * i := by
  have h1 := flat_len (c.ids.take i) (fun x hx => hf.2 x (List.mem_of_mem_take hx))
  have e1 : (ln2 w_tree.data.toList (hexB c.tree)).length = 46 := by
    simp only [ln2, List.length_append, List.length_cons, List.length_nil, hexB_len, hf.1.1]
    rfl
  simp only [headB, List.length_append, e1, h1, List.length_take]
  omega
/-- What the inner test reads. -/
structure QS (G b off n cap i k : Nat) (Rk Ri : List Value) (W : World) : Prop where
  c20 : W.cell? ⟨G, 20, none⟩ = some (.slice (some ⟨b, off, none⟩) n cap)
  rk : W.rangeAt b (off + k * 20) Rk
  ri : W.rangeAt b (off + i * 20) Ri
set_option maxRecDepth 20000 in
set_option maxHeartbeats 8000000 in
theorem writeCommitR_any (c : Cm) (hf : WfC c) (a : Option Addr) (cap : Nat) (w : World) (hP : Pa w a cap c.ids) :
    Calls Tryz.prog 24 #[.agg (cmV c a cap).toArray] w (PostCR c w) := by
  obtain ⟨TV, HTV⟩ : ∃ l : List Value, Hid (cmV c a cap = l) := ⟨_, rfl⟩
  have HVL : Hid (TV.length = 30) := hid (by rw [← HTV.out]; exact cmV_len c a cap hf.1.1)
  obtain ⟨n, HN⟩ : ∃ n, Hid (c.ids.length = n) := ⟨_, rfl⟩
  obtain ⟨M, HMM⟩ : ∃ S : ByteArray, Hid (⟨c.msg.toArray⟩ = S) := ⟨_, rfl⟩
  obtain ⟨ms, HMSB⟩ : ∃ b : Bool, Hid (isMsg c.msg = b) := ⟨_, rfl⟩
  obtain ⟨PA, HPA⟩ : ∃ l : List Value, Hid ((perV c.au).toList = l) := ⟨_, rfl⟩
  obtain ⟨PC, HPC⟩ : ∃ l : List Value, Hid ((perV c.co).toList = l) := ⟨_, rfl⟩
  have hiA : (Tryz.prog.info? 64).map (·.size) = some PA.length := by rw [← HPA.out]; exact Tryz.size64
  have hiC : (Tryz.prog.info? 64).map (·.size) = some PC.length := by rw [← HPC.out]; exact Tryz.size64
  obtain ⟨RT, HRT⟩ : ∃ R : List Value, Hid (row .u8 c.tree = R) := ⟨_, rfl⟩
  have hi31t : (Tryz.prog.info? 31).map (·.size) = some RT.length := by rw [← HRT.out, row_len, hf.1.1]; exact Tryz.size31
  obtain ⟨PT, HPT⟩ : ∃ S : ByteArray, Hid (⟨(perB c.au).toArray⟩ = S) := ⟨_, rfl⟩
  obtain ⟨QT, HQT⟩ : ∃ S : ByteArray, Hid (⟨(perB c.co).toArray⟩ = S) := ⟨_, rfl⟩
  obtain ⟨G, HG⟩ : ∃ G, Hid (w.heap.size = G) := ⟨_, rfl⟩
  obtain ⟨w0, HW0⟩ : ∃ w0, Hid (w.alloc (.cells TV.toArray 66) = w0) := ⟨_, rfl⟩
  have HB0 : Hid (Below G w w0) := hid (by rw [← HW0.out, ← HG.out]; exact (Below.refl _ w).alloc (Nat.le_refl _) _)
  have BG0 : Hid (Bk G TV 66 w0) := ⟨by rw [← HW0.out, ← HG.out]; exact heap_alloc_new w _⟩
  have HC : Hid (∀ W, Bk G TV 66 W → BoxC G c a cap W) := fun W hW => hW.cells HTV.out hf.1.1
  have HPP : Hid (∀ W, Below G w W → Pa W a cap c.ids) := fun W hW => hP.below (by rw [HG.out]; exact hW)
  have HPL : Hid (0 < n → ∃ b off, a = some ⟨b, off, none⟩ ∧ b < G) := fun h0 => by
    obtain ⟨b, off, e1, e2, _⟩ := hP.at_ (by rw [HN.out]; exact h0)
    exact ⟨b, off, e1, by rw [← HG.out]; exact e2⟩
  have CA : Hid (∀ W, Calls Tryz.prog 58 #[.agg PA.toArray] W (PostX c.au W)) := fun W => by rw [← HPA.out]; exact text_any c.au W
  have CC : Hid (∀ W, Calls Tryz.prog 58 #[.agg PC.toArray] W (PostX c.co W)) := fun W => by rw [← HPC.out]; exact text_any c.co W
  have CM : Hid (∀ W, Calls Tryz.prog 59 #[.string M] W fun e w' => e = .returned (.bool ms) ∧ w' = W) := fun W => by rw [← HMM.out, ← HMSB.out]; exact message_any c.msg W
  obtain ⟨HT, HHT⟩ : ∃ S : ByteArray, Hid (strOfNums (Hx.hexOf c.tree) = S) := ⟨_, rfl⟩
  have CHT : Hid (∀ W, Calls Tryz.prog 60 #[.agg RT.toArray] W fun e w' => e = .returned (.string HT) ∧ Below W.heap.size W w') := fun W => by
    rw [← HRT.out, ← HHT.out]; exact Hx.hex_ref c.tree W hf.1.1 hf.1.2
  have HHTS : Hid (HT.size = 40) := hid (by rw [← HHT.out, strOfNums_size, Hx.hexOf_len, hf.1.1])
  have HWC : Hid (WfC c) := hf
  have BAD : Hid (¬ okC c → ∀ W, Below G w W → PostCR c w (.returned (.tuple #[.slice none 0 0, .int .i64 22])) W) := fun h W hW => ⟨by rw [HG.out]; exact hW, .inr ⟨h, rfl⟩⟩
  have R0 : Hid ((w.alloc (.cells TV.toArray 66)).rangeAt w.heap.size 21 PA) := hid (by rw [HG.out, HW0.out, ← HPA.out]; exact (HC.out _ BG0.out).au)
  rw [HTV.out]
  clear hP hf
  go_enter Tryz.func24, Tryz.ntmps24
  go_wp2_with (first | refine wpList_load_mid rfl 64 _ rfl w.heap.size 21 rfl PA _ R0.out Tryz.underlying64 rfl hiA ?_ | fail)
  rw [HG.out, HW0.out]
  clear R0
  refine (CA.out w0).mono ?_
  rintro ev w1 ⟨hb, hor⟩
  have HB1 : Hid (Below G w w1) := HB0.out.trans (hb.mono (Nat.le_of_lt BG0.out.lt))
  have BG1 : Hid (Bk G TV 66 w1) := BG0.out.below hb
  clear hb
  have hfa : ∃ (S : ByteArray) (x : Bool), ev = .returned (.tuple #[.string S, .bool x]) ∧ (x = true ↔ okP c.au) ∧ (x = true → S = PT) := by
    rcases hor with ⟨h, rfl⟩ | ⟨h, rfl⟩
    · exact ⟨_, true, rfl, ⟨fun _ => h, fun _ => rfl⟩, fun _ => by rw [HPT.out]⟩
    · exact ⟨_, false, rfl, ⟨(fun h2 => by cases h2), fun h2 => absurd h2 h⟩, (fun h2 => by cases h2)⟩
  obtain ⟨SA, xa, rfl, hxa, hSA⟩ := hfa
  have HXA : Hid ((xa = true ↔ okP c.au) ∧ (xa = true → SA = PT)) := ⟨hxa, hSA⟩
  clear hor hxa hSA
  have R1 : Hid (w1.rangeAt G 25 PC) := hid (by rw [← HPC.out]; exact (HC.out _ BG1.out).co)
  go_wp2_with (first | refine wpList_load_mid rfl 64 _ rfl G 25 rfl PC _ R1.out Tryz.underlying64 rfl hiC ?_ | fail)
  refine (CC.out w1).mono ?_
  rintro ev w2 ⟨hb, hor⟩
  have HB2 : Hid (Below G w w2) := HB1.out.trans (hb.mono (Nat.le_of_lt BG1.out.lt))
  have BG2 : Hid (Bk G TV 66 w2) := BG1.out.below hb
  clear hb
  have hfa : ∃ (S : ByteArray) (x : Bool), ev = .returned (.tuple #[.string S, .bool x]) ∧ (x = true ↔ okP c.co) ∧ (x = true → S = QT) := by
    rcases hor with ⟨h, rfl⟩ | ⟨h, rfl⟩
    · exact ⟨_, true, rfl, ⟨fun _ => h, fun _ => rfl⟩, fun _ => by rw [HQT.out]⟩
    · exact ⟨_, false, rfl, ⟨(fun h2 => by cases h2), fun h2 => absurd h2 h⟩, (fun h2 => by cases h2)⟩
  obtain ⟨SC, xc, rfl, hxc, hSC⟩ := hfa
  have HXC : Hid ((xc = true ↔ okP c.co) ∧ (xc = true → SC = QT)) := ⟨hxc, hSC⟩
  clear hor hxc hSC
  have c29 : w2.cell? ⟨G, 29, none⟩ = some (.string M) := by rw [← HMM.out]; exact (HC.out _ BG2.out).c29
  have c20 : w2.cell? ⟨G, 20, none⟩ = some (.slice a n cap) := by rw [← HN.out]; exact (HC.out _ BG2.out).c20
  go_wp2_with fail
  refine (CM.out w2).mono ?_
  rintro ev w2' ⟨rfl, hw2⟩
  have hw2' := hw2.symm
  subst hw2'
  clear hw2
  by_cases hn8 : n ≤ 8
  rotate_left
  · have hn8i : (8 : Int) < (n : Int) := by omega
    have HNO : Hid (¬ okC c) := fun h => hn8 (by rw [← HN.out]; exact h.1)
    go_wp2
    go_ret2
    exact BAD.out HNO.out _ HB2.out
  have hn8i : ¬ (8 : Int) < (n : Int) := by omega
  cases xa with
  | false =>
    have HNO : Hid (¬ okC c) := fun h => by have := HXA.out.1.2 h.2.2.1; cases this
    go_wp2
    go_ret2
    exact BAD.out HNO.out _ HB2.out
  | true =>
  cases xc with
  | false =>
    have HNO : Hid (¬ okC c) := fun h => by have := HXC.out.1.2 h.2.2.2.1; cases this
    go_wp2
    go_ret2
    exact BAD.out HNO.out _ HB2.out
  | true =>
  cases ms with
  | false =>
    have HNO : Hid (¬ okC c) := fun h => by have h2 := h.2.2.2.2; rw [HMSB.out] at h2; cases h2
    go_wp2
    go_ret2
    exact BAD.out HNO.out _ HB2.out
  | true =>
  rw [HXA.out.2 rfl, HXC.out.2 rfl]
  have HOA : Hid (okP c.au) := HXA.out.1.1 rfl
  have HOC : Hid (okP c.co) := HXC.out.1.1 rfl
  clear HXA HXC
  have R2 : Hid (w2.rangeAt G 0 RT) := hid (by rw [← HRT.out]; exact (HC.out _ BG2.out).id)
  go_wp2_with (first | refine wpList_load_mid rfl 31 _ rfl G 0 rfl RT _ R2.out Tryz.underlying31 rfl hi31t ?_ | fail)
  refine (CHT.out w2).mono ?_
  rintro ev w3 ⟨rfl, hb⟩
  have HB3 : Hid (Below G w w3) := HB2.out.trans (hb.mono (Nat.le_of_lt BG2.out.lt))
  have BG3 : Hid (Bk G TV 66 w3) := BG2.out.below hb
  clear hb c29 c20
  obtain ⟨A1, HA1⟩ : ∃ A, (⟨#[116, 114, 101, 101, 32]⟩ : ByteArray) ++ HT = A := ⟨_, rfl⟩
  have lw1 : (⟨#[116, 114, 101, 101, 32]⟩ : ByteArray).size = 5 := rfl
  have lw2 : (⟨#[10]⟩ : ByteArray).size = 1 := rfl
  have SA1 : Hid (A1.size = 45) := hid (by rw [← HA1, ByteArray.size_append, lw1, HHTS.out])
  obtain ⟨A2, HA2⟩ : ∃ A, (A1 : ByteArray) ++ ⟨#[10]⟩ = A := ⟨_, rfl⟩
  have g0 : ¬ 9223372036854775807 < 5 + HT.size := by have := HHTS.out; omega
  have g1 : ¬ 9223372036854775807 < A1.size + 1 := by have := SA1.out; omega
  have g2 : ¬ 9223372036854775807 ≤ A1.size := by have := SA1.out; omega
  have HE0 : Hid (A2 = ⟨(headB c 0).toArray⟩) := hid (by
    rw [← HA2, ← HA1, ← HHT.out]
    apply ByteArray.ext
    apply Array.toList_inj.1
    simp [headB, ln2, hexB, w_tree, strOfNums])
  go_wp2_with fail
  clear HA1 HA2 g0 g1 g2
  go_loopg [9, 10] n (fun g sv iv wr => ∃ (i : Nat) (Si : ByteArray), i ≤ n ∧ g = n - i ∧ iv = .int .i64 i ∧ sv = .string Si ∧ Hid (Si = ⟨(headB c i).toArray⟩) ∧ Hid (Below G w wr) ∧ Hid (Bk G TV 66 wr) ∧ Hid (c.ids.take i).Nodup)
  case atStart => exact ⟨0, A2, Nat.zero_le _, rfl, rfl, rfl, HE0, HB3, BG3, hid (by simp)⟩
  case round =>
    obtain ⟨i, Si, hi, hk, rfl, rfl, HSI, HB, BG, HND⟩ := hrel
    have HSS : Hid (Si.size ≤ 10000) := hid (by
      rw [HSI.out, txt_len]
      have := headB_len c HWC.out i
      omega)
    have c20 : wr.cell? ⟨G, 20, none⟩ = some (.slice a n cap) := by rw [← HN.out]; exact (HC.out _ BG.out).c20
    by_cases hlt : i < n
    · have hlti : (i : Int) < (n : Int) := by omega
      obtain ⟨b, off, hae, hbG⟩ := HPL.out (by omega)
      subst hae
      obtain ⟨x, HX⟩ : ∃ x, Hid (c.ids.getD i [] = x) := ⟨_, rfl⟩
      have hxm : x ∈ c.ids := by
        rw [← HX.out, List.getD_eq_getElem?_getD, List.getElem?_eq_getElem (by rw [HN.out]; exact hlt)]
        exact List.getElem_mem _
      obtain ⟨hx20, hxb⟩ := HWC.out.2 x hxm
      obtain ⟨Ri, HRI⟩ : ∃ R : List Value, Hid (row .u8 x = R) := ⟨_, rfl⟩
      have hiRi : (Tryz.prog.info? 31).map (·.size) = some Ri.length := by rw [← HRI.out, row_len, hx20]; exact Tryz.size31
      have HXL : Hid (x.length = 20) := hx20
      obtain ⟨hxs, HHX⟩ : ∃ S : ByteArray, Hid (strOfNums (Hx.hexOf x) = S) := ⟨_, rfl⟩
      have CHX : Hid (∀ W, Calls Tryz.prog 60 #[.agg Ri.toArray] W fun e w' => e = .returned (.string hxs) ∧ Below W.heap.size W w') := fun W => by
        rw [← HRI.out, ← HHX.out]; exact Hx.hex_ref x W hx20 hxb
      have HHXS : Hid (hxs.size = 40) := hid (by rw [← HHX.out, strOfNums_size, Hx.hexOf_len, hx20])
      have HRR : Hid (∀ W, Below G w W → ∀ k, k < n → W.rangeAt b (off + k * 20) (row .u8 (c.ids.getD k []))) := fun W hW k hk => by
        obtain ⟨b', off', e1, e2, e3⟩ := (HPP.out W hW).at_ (by rw [HN.out]; omega)
        cases e1
        exact e3 k (by rw [HN.out]; exact hk)
      clear hxm hx20 hxb
      go_wp2_with fail
      clear c20
      go_loopg [11] i (fun g kv wq => ∃ k : Nat, k ≤ i ∧ g = i - k ∧ kv = .int .i64 k ∧ Hid (Below G w wq) ∧ Hid (Bk G TV 66 wq) ∧ Hid (∀ j, j < k → c.ids.getD j [] ≠ x))
      case atStart => exact ⟨0, Nat.zero_le _, rfl, rfl, HB, BG, fun j hj => by omega⟩
      case round =>
        obtain ⟨k, hki, hkk, rfl, HBq, BGq, HDF⟩ := hrel
        by_cases hkl : k < i
        · have hkli : (k : Int) < (i : Int) := by omega
          have hkn : (k : Int) < (n : Int) := by omega
          obtain ⟨y, HY⟩ : ∃ y, Hid (c.ids.getD k [] = y) := ⟨_, rfl⟩
          have hym : y ∈ c.ids := by
            rw [← HY.out, List.getD_eq_getElem?_getD, List.getElem?_eq_getElem (by rw [HN.out]; omega)]
            exact List.getElem_mem _
          have HYL : Hid (y.length = 20) := (HWC.out.2 y hym).1
          obtain ⟨Rk, HRK⟩ : ∃ R : List Value, Hid (row .u8 y = R) := ⟨_, rfl⟩
          have hiRk : (Tryz.prog.info? 31).map (·.size) = some Rk.length := by rw [← HRK.out, row_len, HYL.out]; exact Tryz.size31
          obtain ⟨bq, HBQ⟩ : ∃ b : Bool, Hid (decide (y = x) = b) := ⟨_, rfl⟩
          have heq31 : ∀ w : World, (Op.equalIn 10000 31 (.agg Rk.toArray) (.agg Ri.toArray)).run Tryz.prog w = .ok bq w := fun w => by rw [← HRK.out, ← HRI.out, ← HBQ.out]; exact eq31 y x HYL.out HXL.out w
          have QSd : Hid (QS G b off n cap i k Rk Ri wr.drew) := hid (by
            refine ⟨?_, ?_, ?_⟩
            · rw [← HN.out]; exact (HC.out _ BGq.out).c20
            · rw [← HRK.out, ← HY.out]; exact HRR.out wr HBq.out k (by omega)
            · rw [← HRI.out, ← HX.out]; exact HRR.out wr HBq.out i hlt)
          have HBd : Hid (Below G w wr.drew) := hid ⟨HBq.out.os, HBq.out.tape, HBq.out.output, HBq.out.size, HBq.out.block⟩
          have BGd : Hid (Bk G TV 66 wr.drew) := ⟨BGq.out.box⟩
          have hk0 : ¬ (k : Int) < 0 := by omega
          have hi0 : ¬ (i : Int) < 0 := by omega
          clear hym
          go_wp2_with fail
          refine wp_region_held_drew (S := QS G b off n cap i k Rk Ri) (by kernel_rfl) (by exact QSd.out) (fun hHeld => ?_)
          generalize wr.drew = u0 at hHeld QSd HBd BGd ⊢
          clear QSd
          refine takeL (i := 0) (v := ?_) rfl (by kernel_rfl) (by kernel_rfl) (by kernel_rfl) (fun _ _ _ h => h) (Or.inl ⟨by rfl, ?_⟩) hHeld ?_
          rotate_left
          · rintro w' ⟨c20, rk, ri⟩; go_simp; rfl
          try simp only [Act.put, List.setIfInBounds_toArray, List.set_cons_zero, List.set_cons_succ]
          refine takeL (i := 1) (v := ?_) rfl (by kernel_rfl) (by kernel_rfl) (by kernel_rfl) (fun _ _ _ h => h) (Or.inl ⟨by rfl, ?_⟩) hHeld ?_
          rotate_left
          · rintro w' ⟨c20, rk, ri⟩; go_simp; rfl
          try simp only [Act.put, List.setIfInBounds_toArray, List.set_cons_zero, List.set_cons_succ]
          refine takeL (i := 2) (v := ?_) rfl (by kernel_rfl) (by kernel_rfl) (by kernel_rfl) (fun _ _ _ h => h) (Or.inl ⟨by rfl, ?_⟩) hHeld ?_
          rotate_left
          · rintro w' ⟨c20, rk, ri⟩; go_simp; rfl
          try simp only [Act.put, List.setIfInBounds_toArray, List.set_cons_zero, List.set_cons_succ]
          refine takeL (i := 3) (v := ?_) rfl (by kernel_rfl) (by kernel_rfl) (by kernel_rfl) (fun _ _ _ h => h) (Or.inl ⟨by rfl, ?_⟩) hHeld ?_
          rotate_left
          · rintro w' ⟨c20, rk, ri⟩; go_simp; rfl
          try simp only [Act.put, List.setIfInBounds_toArray, List.set_cons_zero, List.set_cons_succ]
          refine takeL (i := 4) (v := .agg Rk.toArray) rfl (by kernel_rfl) (by kernel_rfl) (by kernel_rfl) (fun _ _ _ h => h) (yieldsIf_load_mid (by rfl) 31 _ rfl b (off + k * 20) (by rfl) Rk _ (fun w' h => h.rk) Tryz.underlying31 rfl hiRk) hHeld ?_
          try simp only [Act.put, List.setIfInBounds_toArray, List.set_cons_zero, List.set_cons_succ]
          refine takeL (i := 5) (v := ?_) rfl (by kernel_rfl) (by kernel_rfl) (by kernel_rfl) (fun _ _ _ h => h) (Or.inl ⟨by rfl, ?_⟩) hHeld ?_
          rotate_left
          · rintro w' ⟨c20, rk, ri⟩; go_simp; rfl
          try simp only [Act.put, List.setIfInBounds_toArray, List.set_cons_zero, List.set_cons_succ]
          refine takeL (i := 6) (v := ?_) rfl (by kernel_rfl) (by kernel_rfl) (by kernel_rfl) (fun _ _ _ h => h) (Or.inl ⟨by rfl, ?_⟩) hHeld ?_
          rotate_left
          · rintro w' ⟨c20, rk, ri⟩; go_simp; rfl
          try simp only [Act.put, List.setIfInBounds_toArray, List.set_cons_zero, List.set_cons_succ]
          refine takeL (i := 7) (v := ?_) rfl (by kernel_rfl) (by kernel_rfl) (by kernel_rfl) (fun _ _ _ h => h) (Or.inl ⟨by rfl, ?_⟩) hHeld ?_
          rotate_left
          · rintro w' ⟨c20, rk, ri⟩; go_simp; rfl
          try simp only [Act.put, List.setIfInBounds_toArray, List.set_cons_zero, List.set_cons_succ]
          refine takeL (i := 8) (v := ?_) rfl (by kernel_rfl) (by kernel_rfl) (by kernel_rfl) (fun _ _ _ h => h) (Or.inl ⟨by rfl, ?_⟩) hHeld ?_
          rotate_left
          · rintro w' ⟨c20, rk, ri⟩; go_simp; rfl
          try simp only [Act.put, List.setIfInBounds_toArray, List.set_cons_zero, List.set_cons_succ]
          refine takeL (i := 9) (v := .agg Ri.toArray) rfl (by kernel_rfl) (by kernel_rfl) (by kernel_rfl) (fun _ _ _ h => h) (yieldsIf_load_mid (by rfl) 31 _ rfl b (off + i * 20) (by rfl) Ri _ (fun w' h => h.ri) Tryz.underlying31 rfl hiRi) hHeld ?_
          try simp only [Act.put, List.setIfInBounds_toArray, List.set_cons_zero, List.set_cons_succ]
          refine takeL (i := 10) (v := ?_) rfl (by kernel_rfl) (by kernel_rfl) (by kernel_rfl) (fun _ _ _ h => h) (Or.inl ⟨by rfl, ?_⟩) hHeld ?_
          rotate_left
          · rintro w' ⟨c20, rk, ri⟩; go_simp; rfl
          try simp only [Act.put, List.setIfInBounds_toArray, List.set_cons_zero, List.set_cons_succ]
          refine wpAnyH_done (by kernel_rfl) ?_ _
          clear hHeld
          cases bq with
          | true =>
            have HNO : Hid (¬ okC c) := fun h => by
              have e : y = x := of_decide_eq_true HBQ.out
              have h1 := List.nodup_iff_pairwise_ne.1 h.2.1
              have h2 := List.pairwise_iff_getElem.1 h1 k i (by rw [HN.out]; omega) (by rw [HN.out]; exact hlt) hkl
              refine h2 ?_
              have e1 := HY.out
              have e2 := HX.out
              rw [List.getD_eq_getElem?_getD, List.getElem?_eq_getElem (by rw [HN.out]; omega)] at e1
              rw [List.getD_eq_getElem?_getD, List.getElem?_eq_getElem (by rw [HN.out]; exact hlt)] at e2
              simp only [Option.getD_some] at e1 e2
              rw [e1, e2, e]
            go_wp2
            go_ret2
            exact BAD.out HNO.out _ HBd.out
          | false =>
            have HNE : Hid (y ≠ x) := of_decide_eq_false HBQ.out
            go_wp2
            go_roundg (i - (k + 1))
            case measure => omega
            case rel =>
              refine ⟨k + 1, by omega, rfl, by go_num, HBd, BGd, fun j hj => ?_⟩
              by_cases e : j = k
              · rw [e, HY.out]; exact HNE.out
              · exact HDF.out j (by omega)
        · have hkli : ¬ (k : Int) < (i : Int) := by omega
          obtain rfl : k = i := by omega
          have c20 : wr.cell? ⟨G, 20, none⟩ = some (.slice (some ⟨b, off, none⟩) n cap) := by rw [← HN.out]; exact (HC.out _ BGq.out).c20
          have RRi : Hid (wr.rangeAt b (off + k * 20) Ri) := hid (by rw [← HRI.out, ← HX.out]; exact HRR.out _ HBq.out k hlt)
          have hkn : (k : Int) < (n : Int) := by omega
          obtain ⟨T1, HT1⟩ : ∃ A, (Si : ByteArray) ++ ⟨#[112, 97, 114, 101, 110, 116, 32]⟩ = A := ⟨_, rfl⟩
          have lp : (⟨#[112, 97, 114, 101, 110, 116, 32]⟩ : ByteArray).size = 7 := rfl
          have S1 : Hid (T1.size = Si.size + 7) := hid (by rw [← HT1, ByteArray.size_append, lp])
          obtain ⟨T2, HT2⟩ : ∃ A, (T1 : ByteArray) ++ hxs = A := ⟨_, rfl⟩
          have S2 : Hid (T2.size = T1.size + 40) := hid (by rw [← HT2, ByteArray.size_append, HHXS.out])
          obtain ⟨T3, HT3⟩ : ∃ A, (T2 : ByteArray) ++ ⟨#[10]⟩ = A := ⟨_, rfl⟩
          have g0 : ¬ 9223372036854775807 < Si.size + 7 := by have := HSS.out; omega
          have g1 : ¬ 9223372036854775807 < T1.size + hxs.size := by have := HSS.out; have := S1.out; have := HHXS.out; omega
          have g2 : ¬ 9223372036854775807 < T2.size + 1 := by have := HSS.out; have := S1.out; have := S2.out; omega
          have g3 : ¬ 9223372036854775807 ≤ T2.size := by have := HSS.out; have := S1.out; have := S2.out; omega
          have HE1 : Hid (T3 = ⟨(headB c (k + 1)).toArray⟩) := hid (by
            rw [headB_snoc c k (by rw [HN.out]; exact hlt), HX.out, ← HT3, ← HT2, ← HT1, HSI.out, ← HHX.out]
            apply ByteArray.ext
            apply Array.toList_inj.1
            simp [ln2, hexB, w_parent, strOfNums])
          have HND2 : Hid (c.ids.take (k + 1)).Nodup := hid (by
            rw [take_snocI c.ids k (by rw [HN.out]; exact hlt), HX.out, List.nodup_append]
            refine ⟨HND.out, by simp, fun u hu v hv e => ?_⟩
            have hv2 : v = x := by simpa using hv
            obtain ⟨j, hj, e2⟩ := List.getElem_of_mem hu
            rw [List.length_take] at hj
            refine HDF.out j (by omega) ?_
            rw [List.getElem_take] at e2
            rw [List.getD_eq_getElem?_getD, List.getElem?_eq_getElem (by omega)]
            simp only [Option.getD_some]
            rw [e2, e, hv2])
          go_wp2_with (first | refine wpList_load_mid rfl 31 _ rfl b (off + k * 20) rfl Ri _ RRi.out Tryz.underlying31 rfl hiRi ?_ | fail)
          refine (CHX.out wr).mono ?_
          rintro ev w5 ⟨rfl, hb⟩
          have HB5 : Hid (Below G w w5) := HBq.out.trans (hb.mono (Nat.le_of_lt BGq.out.lt))
          have BG5 : Hid (Bk G TV 66 w5) := BGq.out.below hb
          clear hb
          go_wp2
          go_roundg (n - (k + 1))
          case measure => omega
          case rel => exact ⟨k + 1, T3, by omega, rfl, by go_num, rfl, HE1, HB5, BG5, HND2⟩
    · have hlti : ¬ (i : Int) < (n : Int) := by omega
      obtain rfl : i = n := by omega
      have HOK : Hid (okC c) := ⟨by rw [HN.out]; exact hn8, by have := HND.out; rw [List.take_of_length_le (by rw [HN.out]; omega)] at this; exact this, HOA.out, HOC.out, HMSB.out⟩
      have c29 : wr.cell? ⟨G, 29, none⟩ = some (.string M) := by rw [← HMM.out]; exact (HC.out _ BG.out).c29
      have HM2k : Hid (M.size ≤ 2000) := hid (by rw [← HMM.out, txt_size]; have := HOK.out.2.2.2.2; unfold isMsg at this; rw [Bool.and_eq_true] at this; exact of_decide_eq_true this.1)
      have HPL2 : Hid (PT.size ≤ 1000) := hid (by rw [← HPT.out, txt_size]; exact perB_len c.au HOA.out)
      have HQL : Hid (QT.size ≤ 1000) := hid (by rw [← HQT.out, txt_size]; exact perB_len c.co HOC.out)
      obtain ⟨TB, HTB⟩ : ∃ l : List UInt8, Hid (cmB c = l) := ⟨_, rfl⟩
      obtain ⟨B1, K1⟩ : ∃ A, (Si : ByteArray) ++ ⟨#[97, 117, 116, 104, 111, 114, 32]⟩ = A := ⟨_, rfl⟩
      have l1 : (⟨#[97, 117, 116, 104, 111, 114, 32]⟩ : ByteArray).size = 7 := rfl
      have Z1 : Hid (B1.size = Si.size + 7) := hid (by rw [← K1, ByteArray.size_append, l1])
      obtain ⟨B2, K2⟩ : ∃ A, (B1 : ByteArray) ++ PT = A := ⟨_, rfl⟩
      have Z2 : Hid (B2.size = B1.size + PT.size) := hid (by rw [← K2, ByteArray.size_append])
      obtain ⟨B3, K3⟩ : ∃ A, (B2 : ByteArray) ++ ⟨#[10, 99, 111, 109, 109, 105, 116, 116, 101, 114, 32]⟩ = A := ⟨_, rfl⟩
      have l3 : (⟨#[10, 99, 111, 109, 109, 105, 116, 116, 101, 114, 32]⟩ : ByteArray).size = 11 := rfl
      have Z3 : Hid (B3.size = B2.size + 11) := hid (by rw [← K3, ByteArray.size_append, l3])
      obtain ⟨B4, K4⟩ : ∃ A, (B3 : ByteArray) ++ QT = A := ⟨_, rfl⟩
      have Z4 : Hid (B4.size = B3.size + QT.size) := hid (by rw [← K4, ByteArray.size_append])
      obtain ⟨B5, K5⟩ : ∃ A, (B4 : ByteArray) ++ ⟨#[10, 10]⟩ = A := ⟨_, rfl⟩
      have l5 : (⟨#[10, 10]⟩ : ByteArray).size = 2 := rfl
      have Z5 : Hid (B5.size = B4.size + 2) := hid (by rw [← K5, ByteArray.size_append, l5])
      obtain ⟨B6, K6⟩ : ∃ A, (B5 : ByteArray) ++ M = A := ⟨_, rfl⟩
      have y1 : ¬ 9223372036854775807 < Si.size + 7 := by have := HSS.out; omega
      have y2 : ¬ 9223372036854775807 < B1.size + PT.size := by have := HSS.out; have := Z1.out; have := HPL2.out; omega
      have y3 : ¬ 9223372036854775807 < B2.size + 11 := by have := HSS.out; have := Z1.out; have := HPL2.out; have := Z2.out; omega
      have y4 : ¬ 9223372036854775807 < B3.size + QT.size := by have := HSS.out; have := Z1.out; have := HPL2.out; have := Z2.out; have := Z3.out; have := HQL.out; omega
      have y5 : ¬ 9223372036854775807 < B4.size + 2 := by have := HSS.out; have := Z1.out; have := HPL2.out; have := Z2.out; have := Z3.out; have := Z4.out; have := HQL.out; omega
      have y6 : ¬ 9223372036854775807 < B5.size + M.size := by have := HSS.out; have := Z1.out; have := HPL2.out; have := Z2.out; have := Z3.out; have := Z4.out; have := Z5.out; have := HQL.out; have := HM2k.out; omega
      have HE : Hid (B6 = ⟨TB.toArray⟩) := hid (by
        rw [← HTB.out, ← K6, ← K5, ← K4, ← K3, ← K2, ← K1, HSI.out, ← HPT.out, ← HQT.out, ← HMM.out]
        apply ByteArray.ext
        apply Array.toList_inj.1
        have e : c.ids.take i = c.ids := List.take_of_length_le (by rw [HN.out]; omega)
        simp [cmB, headB, e, ln2, w_author, w_committer])
      obtain ⟨c2, w3b, hr3, hm3, hb3, hs3⟩ := conv_mk TB wr
      rw [← HE.out] at hr3
      have PE : Hid (PostCR c w (.returned (.tuple #[.slice (some ⟨wr.heap.size, 0, none⟩) TB.length c2, .int .i64 0])) w3b) := hid (by
        refine ⟨by rw [HG.out]; exact HB.out.trans (hb3.mono (Nat.le_of_lt BG.out.lt)), .inl ⟨HOK.out, wr.heap.size, c2, by rw [HTB.out], ?_, ?_⟩⟩
        · rw [HG.out]; exact Nat.le_of_lt BG.out.lt
        · rw [HTB.out]; exact hm3)
      obtain ⟨L, HL⟩ : ∃ L, Hid (TB.length = L) := ⟨_, rfl⟩
      rw [HL.out] at hr3 PE
      clear hm3 hb3
      go_wp2
      go_ret2
      exact PE.out
end Go.Proofs.YtenbdeljblmbhaaGreatDoor
