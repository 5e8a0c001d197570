import Derived.Test.YtbpdielmdhhdfaaGreatDoorMl13
import Derived.Test.YtbpdielmdhhdfaaGreatDoorMl12
import Derived.Test.YtbpdielmdhhdfaaGreatDoorMl08
namespace Go.Proofs.YtbpdielmdhhdfaaGreatDoor
open Go.RowKit
set_option linter.unusedVariables false
set_option linter.unusedSimpArgs false
structure PB (G : Nat) (A B : ByteArray) (T Z : Int) (w W : World) : Prop where
  below : Below G w W
  box : W.heap[G + 1]? = some (.cells #[.string A, .string B, .int .i64 T, .int .i64 Z] 64 (0, 0))
  res : W.heap[G]? = some (.cells #[.string ⟨#[]⟩, .string ⟨#[]⟩, .int .i64 0, .int .i64 0] 64 (0, 0))
theorem PB.step {G : Nat} {A B A' B' : ByteArray} {T Z T' Z' : Int} {w W : World} (h : PB G A B T Z w W) (i : Nat) (v : Value) (he : (#[.string A, .string B, .int .i64 T, .int .i64 Z] : Array Value).setIfInBounds i v = #[.string A', .string B', .int .i64 T', .int .i64 Z']) : PB G A' B' T' Z' w (W.setCell ⟨G + 1, i, none⟩ v) :=
  ⟨h.below.setCell (by show G ≤ G + 1; omega) _, by rw [heap_setCell_same W (G + 1) i _ 64 v h.box, he], (heap_setCell_other W ⟨G + 1, i, none⟩ G v (by show G ≠ G + 1; omega)).trans h.res⟩
theorem PB.grow {G : Nat} {A B : ByteArray} {T Z : Int} {w W W' : World} (h : PB G A B T Z w W) (hb : Below W.heap.size W W') : PB G A B T Z w W' :=
  ⟨h.below.trans (hb.mono (Nat.le_of_lt (lt_of_some h.res))), (hb.block _ (lt_of_some h.box)).trans h.box, (hb.block _ (lt_of_some h.res)).trans h.res⟩
theorem PB.cells {G : Nat} {A B : ByteArray} {T Z : Int} {w W : World} (h : PB G A B T Z w W) : W.cell? ⟨G + 1, 0, none⟩ = some (.string A) ∧ W.cell? ⟨G + 1, 1, none⟩ = some (.string B) ∧ W.cell? ⟨G + 1, 2, none⟩ = some (.int .i64 T) ∧ W.cell? ⟨G + 1, 3, none⟩ = some (.int .i64 Z) ∧ ∀ i, W.frozen? ⟨G + 1, i, none⟩ = false :=
  ⟨(cell_of_row W (G + 1) 0 _ _ _ h.box).trans rfl, (cell_of_row W (G + 1) 1 _ _ _ h.box).trans rfl, (cell_of_row W (G + 1) 2 _ _ _ h.box).trans rfl, (cell_of_row W (G + 1) 3 _ _ _ h.box).trans rfl, fun i => frozen_of_row W (G + 1) i _ _ h.box⟩
theorem Tryz.results109 : Tryz.f109.results = #[.cell 2 64, .tmp 3] := by kernel_rfl
theorem Tryz.size64 : (Tryz.prog.info? 64).map (·.size) = some 4 := by kernel_rfl
def PostRP (s : List UInt8) (e : Ending) : Prop := ∃ p b, e = .returned (.tuple #[.agg (perV p), .bool b]) ∧ (b = true → okP p ∧ perB p = s) ∧ ∀ q, okP q → perB q = s → b = true
set_option maxRecDepth 20000 in
set_option maxHeartbeats 2000000 in
theorem readPerson_any (s : List UInt8) (hs : s.length ≤ 1000000) (w : World) : Calls Tryz.prog 109 #[.string ⟨s.toArray⟩] w fun e w' => Below w.heap.size w w' ∧ PostRP s e := by
  obtain ⟨S, HS⟩ : ∃ S : ByteArray, Hid (⟨s.toArray⟩ = S) := ⟨_, rfl⟩
  obtain ⟨n, HN⟩ : ∃ n, Hid (s.length = n) := ⟨_, rfl⟩
  have hsz : S.size = n := by rw [← HS.out, txt_len]; exact HN.out
  have hn : n ≤ 1000000 := by rw [← HN.out]; exact hs
  obtain ⟨G, HG⟩ : ∃ G, Hid (w.heap.size = G) := ⟨_, rfl⟩
  obtain ⟨w1, HW1⟩ : ∃ w1, Hid ((w.alloc (.cells #[.string ⟨#[]⟩, .string ⟨#[]⟩, .int .i64 0, .int .i64 0] 64)).alloc (.cells #[.string ⟨#[]⟩, .string ⟨#[]⟩, .int .i64 0, .int .i64 0] 64) = w1) := ⟨_, rfl⟩
  have PB1 : Hid (PB G ⟨#[]⟩ ⟨#[]⟩ 0 0 w w1) := hid (by
    rw [← HW1.out, ← HG.out]
    refine ⟨((Below.refl _ w).alloc (Nat.le_refl _) _).alloc (by simp) _, ?_, ?_⟩
    · have := heap_alloc_new (w.alloc (.cells #[.string ⟨#[]⟩, .string ⟨#[]⟩, .int .i64 0, .int .i64 0] 64)) (.cells #[.string ⟨#[]⟩, .string ⟨#[]⟩, .int .i64 0, .int .i64 0] 64)
      simpa using this
    · have h1 := heap_alloc_new w (.cells #[.string ⟨#[]⟩, .string ⟨#[]⟩, .int .i64 0, .int .i64 0] 64)
      have h2 := ((Below.refl (w.alloc (.cells #[.string ⟨#[]⟩, .string ⟨#[]⟩, .int .i64 0, .int .i64 0] 64)).heap.size (w.alloc (.cells #[.string ⟨#[]⟩, .string ⟨#[]⟩, .int .i64 0, .int .i64 0] 64))).alloc (Nat.le_refl _) (.cells #[.string ⟨#[]⟩, .string ⟨#[]⟩, .int .i64 0, .int .i64 0] 64)).block w.heap.size (by simp)
      exact h2.trans h1)
  have NOP : Hid ((∀ q, okP q → perB q ≠ s) → PostRP s (.returned (.tuple #[.agg #[.string ⟨#[]⟩, .string ⟨#[]⟩, .int .i64 0, .int .i64 0], .bool false]))) := fun h => ⟨⟨[], [], 0, 0⟩, false, rfl, (fun h => by cases h), fun q h1 h2 => absurd h2 (h q h1)⟩
  rw [HS.out]
  clear hs
  go_enter Tryz.func109, Tryz.ntmps109
  go_wp2
  rw [HG.out, HW1.out]
  go_loopg [5] n (fun g i wr => ∃ o : Nat, o ≤ n ∧ g = n - o ∧ i = .int .i64 o ∧ Hid (∀ x ∈ s.take o, x ≠ 60) ∧ Hid (wr = w1))
  case atStart => exact ⟨0, by omega, rfl, rfl, hid (by simp), hid rfl⟩
  case round =>
    obtain ⟨o, ho, hk, rfl, HT, HWR⟩ := hrel
    have h2 : w1 = wr := HWR.out.symm
    subst h2
    clear HWR
    by_cases hlt : o < n
    · have hlti : (o : Int) < (n : Int) := by omega
      obtain ⟨x, hx⟩ : ∃ x, s[o]? = some x := ⟨_, List.getElem?_eq_getElem (by rw [HN.out]; exact hlt)⟩
      obtain ⟨c, HC⟩ : ∃ c, Hid ((x.toNat : Int) = c) := ⟨_, rfl⟩
      have HX : Hid (s[o]? = some x) := hx
      have hix : ∀ w1 : World, (Instr.index 9 (.string S) (.int .i64 o)).run Tryz.prog w1 = .ok (.int .u8 c) w1 := fun w1 => by rw [← HS.out, ← HC.out]; exact index_txt s o w1 x HX.out
      clear hx
      by_cases hc : c = 60
      · have HO2 : Hid (s[o]? = some 60) := hid (by rw [HX.out, (u8_ne (n := 60) (by decide)).1 (HC.out.trans hc)]; rfl)
        clear HC
        subst hc
        go_wp2
        go_loopg [6] (n - o) (fun g i wr => ∃ sh : Nat, o ≤ sh ∧ sh ≤ n ∧ g = n - sh ∧ i = .int .i64 sh ∧ Hid (∀ x ∈ (s.take sh).drop o, x ≠ 62) ∧ Hid (wr = w1))
        case atStart => exact ⟨o, by omega, by omega, rfl, rfl, hid (by simp), hid rfl⟩
        case round =>
          obtain ⟨sh, hsh1, hsh, hk2, rfl, HT2, HWR⟩ := hrel
          have h2 : w1 = wr := HWR.out.symm
          subst h2
          clear HWR
          by_cases hlt2 : sh < n
          · have hlti2 : (sh : Int) < (n : Int) := by omega
            obtain ⟨y, hy⟩ : ∃ x, s[sh]? = some x := ⟨_, List.getElem?_eq_getElem (by rw [HN.out]; exact hlt2)⟩
            obtain ⟨d, HD⟩ : ∃ c, Hid ((y.toNat : Int) = c) := ⟨_, rfl⟩
            have HY : Hid (s[sh]? = some y) := hy
            have hiy : ∀ w1 : World, (Instr.index 9 (.string S) (.int .i64 sh)).run Tryz.prog w1 = .ok (.int .u8 d) w1 := fun w1 => by rw [← HS.out, ← HD.out]; exact index_txt s sh w1 y HY.out
            clear hy
            by_cases hd : d = 62
            · have HS2 : Hid (s[sh]? = some 62) := hid (by rw [HY.out, (u8_ne (n := 62) (by decide)).1 (HD.out.trans hd)]; rfl)
              clear HD
              subst hd
              have hge2 : ¬ (n : Int) ≤ (sh : Int) := by omega
              have HPT : Hid (∀ q, okP q → perB q = s → o = q.name.length + 1 ∧ sh = q.name.length + 2 + q.mail.length ∧ s.length = sh + 8 + (Lib.decDigits q.time.toNat).length ∧ s.take (o - 1) = q.name ∧ (s.drop (o + 1)).take (sh - (o + 1)) = q.mail ∧
                  (s.drop (sh + 2)).take (s.length - 6 - (sh + 2)) = Lib.decDigits q.time.toNat ∧ (s.drop (s.length - 4)).take 2 = two (zh q) ∧ s.drop (s.length - 2) = two (zm q) ∧ s[s.length - 5]? = some (zs q)) := fun q h1 h2 => per_parts q h1 s h2 o sh HT.out (.inr HO2.out) hsh1 HT2.out (.inr HS2.out)
              by_cases ho1 : (o : Int) < 1
              · have HNO : Hid (∀ q, okP q → perB q ≠ s) := fun q h1 h2 => by have := (HPT.out q h1 h2).1; omega
                obtain ⟨c0, c1, c2, c3, cf⟩ := PB1.out.cells
                have E1 : Hid (w1.there G 0 (#[.string ⟨#[]⟩, .string ⟨#[]⟩, .int .i64 0, .int .i64 0] : Array Value).size) := hid (there_off PB1.out.res 0 (Nat.le_refl _))
                have E2 : Hid ((Tryz.prog.info? 64).map (·.size) = some (#[.string ⟨#[]⟩, .string ⟨#[]⟩, .int .i64 0, .int .i64 0] : Array Value).size) := Tryz.size64
                have E3 : Hid ((#[.string ⟨#[]⟩, .string ⟨#[]⟩, .int .i64 0, .int .i64 0] : Array Value).all (·.oneCell') = true) := hid (all_oneCell_toArray (fun v hv => by simp only [List.mem_cons, List.not_mem_nil, or_false] at hv; rcases hv with rfl | rfl | rfl | rfl <;> rfl))
                go_wp2_with (refine wpList_store_mid rfl 64 _ _ rfl G 0 #[.string ⟨#[]⟩, .string ⟨#[]⟩, .int .i64 0, .int .i64 0] rfl rfl E1.out E2.out E3.out ?_)
                refine bodyPost_ret (v := .tuple #[.agg #[.string ⟨#[]⟩, .string ⟨#[]⟩, .int .i64 0, .int .i64 0], .bool false]) (results_mid2 Tryz.results109 _ _ G (#[.string ⟨#[]⟩, .string ⟨#[]⟩, .int .i64 0, .int .i64 0] : Array Value).toList _ rfl (World.rangeAt_setCells_same w1 G 0 _ E1.out) Tryz.underlying64 rfl Tryz.size64) rfl ⟨?_, ?_⟩
                · rw [HG.out]; exact below_setCells (Nat.le_refl _) _ _ _ _ PB1.out.below
                · exact NOP.out HNO.out
              by_cases h9 : (n : Int) < (sh : Int) + 9
              · have HNO : Hid (∀ q, okP q → perB q ≠ s) := fun q h1 h2 => by
                  have h3 := (HPT.out q h1 h2).2.2.1
                  have h4 := (dig_val q.time.toNat).2.2.1
                  rw [HN.out] at h3
                  omega
                obtain ⟨c0, c1, c2, c3, cf⟩ := PB1.out.cells
                have E1 : Hid (w1.there G 0 (#[.string ⟨#[]⟩, .string ⟨#[]⟩, .int .i64 0, .int .i64 0] : Array Value).size) := hid (there_off PB1.out.res 0 (Nat.le_refl _))
                have E2 : Hid ((Tryz.prog.info? 64).map (·.size) = some (#[.string ⟨#[]⟩, .string ⟨#[]⟩, .int .i64 0, .int .i64 0] : Array Value).size) := Tryz.size64
                have E3 : Hid ((#[.string ⟨#[]⟩, .string ⟨#[]⟩, .int .i64 0, .int .i64 0] : Array Value).all (·.oneCell') = true) := hid (all_oneCell_toArray (fun v hv => by simp only [List.mem_cons, List.not_mem_nil, or_false] at hv; rcases hv with rfl | rfl | rfl | rfl <;> rfl))
                go_wp2_with (refine wpList_store_mid rfl 64 _ _ rfl G 0 #[.string ⟨#[]⟩, .string ⟨#[]⟩, .int .i64 0, .int .i64 0] rfl rfl E1.out E2.out E3.out ?_)
                refine bodyPost_ret (v := .tuple #[.agg #[.string ⟨#[]⟩, .string ⟨#[]⟩, .int .i64 0, .int .i64 0], .bool false]) (results_mid2 Tryz.results109 _ _ G (#[.string ⟨#[]⟩, .string ⟨#[]⟩, .int .i64 0, .int .i64 0] : Array Value).toList _ rfl (World.rangeAt_setCells_same w1 G 0 _ E1.out) Tryz.underlying64 rfl Tryz.size64) rfl ⟨?_, ?_⟩
                · rw [HG.out]; exact below_setCells (Nat.le_refl _) _ _ _ _ PB1.out.below
                · exact NOP.out HNO.out
              have hso : o + 1 ≤ sh := by
                rcases Nat.lt_or_ge o sh with h | h
                · exact h
                · have e2 : sh = o := by omega
                  have h3 := HS2.out
                  rw [e2, HO2.out] at h3
                  simp at h3
              have h9n : sh + 9 ≤ n := by omega
              have ho1n : 1 ≤ o := by omega
              obtain ⟨a1, Q1⟩ : ∃ l, Hid (s.take (o - 1) = l) := ⟨_, rfl⟩
              obtain ⟨A1, R1⟩ : ∃ S : ByteArray, Hid (⟨a1.toArray⟩ = S) := ⟨_, rfl⟩
              obtain ⟨a2, Q2⟩ : ∃ l, Hid ((s.drop (o + 1)).take (sh - (o + 1)) = l) := ⟨_, rfl⟩
              obtain ⟨A2, R2⟩ : ∃ S : ByteArray, Hid (⟨a2.toArray⟩ = S) := ⟨_, rfl⟩
              obtain ⟨a3, Q3⟩ : ∃ l, Hid ((s.drop (sh + 2)).take (n - 6 - (sh + 2)) = l) := ⟨_, rfl⟩
              obtain ⟨A3, R3⟩ : ∃ S : ByteArray, Hid (⟨a3.toArray⟩ = S) := ⟨_, rfl⟩
              obtain ⟨a4, Q4⟩ : ∃ l, Hid ((s.drop (n - 4)).take 2 = l) := ⟨_, rfl⟩
              obtain ⟨A4, R4⟩ : ∃ S : ByteArray, Hid (⟨a4.toArray⟩ = S) := ⟨_, rfl⟩
              obtain ⟨a5, Q5⟩ : ∃ l, Hid (s.drop (n - 2) = l) := ⟨_, rfl⟩
              obtain ⟨A5, R5⟩ : ∃ S : ByteArray, Hid (⟨a5.toArray⟩ = S) := ⟨_, rfl⟩
              have q4 : Hid (a4.length = 2) := hid (by rw [← Q4.out, List.length_take, List.length_drop, HN.out]; omega)
              have q5 : Hid (a5.length = 2) := hid (by rw [← Q5.out, List.length_drop, HN.out]; omega)
              have z4 : A4.size = 2 := by rw [← R4.out, txt_len]; exact q4.out
              have z5 : A5.size = 2 := by rw [← R5.out, txt_len]; exact q5.out
              have l49 : (⟨#[49]⟩ : ByteArray).size = 1 := rfl
              obtain ⟨B4, HB4⟩ : ∃ A : ByteArray, ⟨#[49]⟩ ++ A4 = A := ⟨_, rfl⟩
              obtain ⟨B5, HB5⟩ : ∃ A : ByteArray, ⟨#[49]⟩ ++ A5 = A := ⟨_, rfl⟩
              have T4 : Hid (⟨(49 :: a4).toArray⟩ = B4) := hid (by rw [← HB4, ← R4.out, show (⟨#[49]⟩ : ByteArray) = ⟨[49].toArray⟩ from rfl, str_add]; rfl)
              have T5 : Hid (⟨(49 :: a5).toArray⟩ = B5) := hid (by rw [← HB5, ← R5.out, show (⟨#[49]⟩ : ByteArray) = ⟨[49].toArray⟩ from rfl, str_add]; rfl)
              have hs0 : ∀ W, (Instr.slice 9 (.string S) none (some (.int .i64 ((o : Int) - 1))) none).run Tryz.prog W = .ok (.string A1) W := fun W => by
                rw [← HS.out, ← R1.out, ← Q1.out, show ((o : Int) - 1) = ((o - 1 : Nat) : Int) from by omega]; exact slice_to s (o - 1) (by rw [HN.out]; omega) W
              have hs1 : ∀ W, (Instr.slice 9 (.string S) (some (.int .i64 ((o : Int) + 1))) (some (.int .i64 sh)) none).run Tryz.prog W = .ok (.string A2) W := fun W => by
                rw [← HS.out, ← R2.out, ← Q2.out]; exact slice_mid s (o + 1) sh hso (by rw [HN.out]; omega) W
              have hs2 : ∀ W, (Instr.slice 9 (.string S) (some (.int .i64 ((sh : Int) + 2))) (some (.int .i64 ((n : Int) - 6))) none).run Tryz.prog W = .ok (.string A3) W := fun W => by
                rw [← HS.out, ← R3.out, ← Q3.out, show ((n : Int) - 6) = ((n - 6 : Nat) : Int) from by omega]; exact slice_mid s (sh + 2) (n - 6) (by omega) (by rw [HN.out]; omega) W
              have hs3 : ∀ W, (Instr.slice 9 (.string S) (some (.int .i64 ((n : Int) - 4))) (some (.int .i64 ((n : Int) - 2))) none).run Tryz.prog W = .ok (.string A4) W := fun W => by
                rw [← HS.out, ← R4.out, ← Q4.out, show ((n : Int) - 4) = ((n - 4 : Nat) : Int) from by omega, show ((n : Int) - 2) = ((n - 2 : Nat) : Int) from by omega]
                have h := slice_mid s (n - 4) (n - 2) (by omega) (by rw [HN.out]; omega) W
                rw [show n - 2 - (n - 4) = 2 from by omega] at h
                exact h
              have hs4 : ∀ W, (Instr.slice 9 (.string S) (some (.int .i64 ((n : Int) - 2))) none none).run Tryz.prog W = .ok (.string A5) W := fun W => by
                rw [← HS.out, ← R5.out, ← Q5.out, show ((n : Int) - 2) = ((n - 2 : Nat) : Int) from by omega]; exact slice_from s (n - 2) (by rw [HN.out]; omega) W
              have N3 : Hid (∀ W, Calls Tryz.prog 143 #[.string A3] W fun e w' => w' = W ∧ PostN a3 e) := fun W => by rw [← R3.out]; exact numberR_any a3 W
              have N4 : Hid (∀ W, Calls Tryz.prog 143 #[.string B4] W fun e w' => w' = W ∧ PostN (49 :: a4) e) := fun W => by rw [← T4.out]; exact numberR_any _ W
              have N5 : Hid (∀ W, Calls Tryz.prog 143 #[.string B5] W fun e w' => w' = W ∧ PostN (49 :: a5) e) := fun W => by rw [← T5.out]; exact numberR_any _ W
              obtain ⟨y5, hy5⟩ : ∃ x, s[n - 5]? = some x := ⟨_, List.getElem?_eq_getElem (by rw [HN.out]; omega)⟩
              obtain ⟨d5, HD5⟩ : ∃ c, Hid ((y5.toNat : Int) = c) := ⟨_, rfl⟩
              have HY5 : Hid (s[n - 5]? = some y5) := hy5
              have hi5 : ∀ w1 : World, (Instr.index 9 (.string S) (.int .i64 ((n : Int) - 5))).run Tryz.prog w1 = .ok (.int .u8 d5) w1 := fun w1 => by rw [← HS.out, ← HD5.out, show ((n : Int) - 5) = ((n - 5 : Nat) : Int) from by omega]; exact index_txt s (n - 5) w1 y5 HY5.out
              clear hy5
              obtain ⟨c0, c1, c2, c3, cf⟩ := PB1.out.cells
              go_wp2_with fail
              have PB2 : Hid (PB G A1 A2 0 0 w ((w1.setCell ⟨G + 1, 0, none⟩ (.string A1)).setCell ⟨G + 1, 1, none⟩ (.string A2))) := (PB1.out.step (A' := A1) (B' := ⟨#[]⟩) (T' := 0) (Z' := 0) 0 _ rfl).step 1 _ rfl
              generalize (w1.setCell ⟨G + 1, 0, none⟩ (.string A1)).setCell ⟨G + 1, 1, none⟩ (.string A2) = w2 at PB2 ⊢
              clear c0 c1 c2 c3 cf hs0 hs1 hs2
              refine (N3.out w2).mono ?_
              rintro ev w2' ⟨hw2, v, rfl, hv⟩
              have hw2' := hw2.symm
              subst hw2'
              clear hw2
              have HV : Hid (NuP a3 v) := hv
              clear hv
              obtain ⟨c0, c1, c2, c3, cf⟩ := PB2.out.cells
              go_wp2_with fail
              have PB3 : Hid (PB G A1 A2 v 0 w (w2.setCell ⟨G + 1, 2, none⟩ (.int .i64 v))) := PB2.out.step 2 _ rfl
              generalize w2.setCell ⟨G + 1, 2, none⟩ (.int .i64 v) = w3 at PB3 ⊢
              clear c0 c1 c2 c3 cf hs3
              refine (N4.out w3).mono ?_
              rintro ev w3' ⟨hw3, h, rfl, hh⟩
              have hw3' := hw3.symm
              subst hw3'
              clear hw3
              have HH : Hid (NuP (49 :: a4) h) := hh
              clear hh
              go_wp2_with fail
              refine (N5.out w3).mono ?_
              rintro ev w3' ⟨hw3, m, rfl, hm⟩
              have hw3' := hw3.symm
              subst hw3'
              clear hw3 hs4
              have HM : Hid (NuP (49 :: a5) m) := hm
              clear hm
              obtain ⟨c0, c1, c2, c3, cf⟩ := PB3.out.cells
              have HQV : Hid (∀ q, okP q → perB q = s → a1 = q.name ∧ a2 = q.mail ∧ v = (q.time.toNat : Int) ∧ h = 100 + (zh q : Int) ∧ m = 100 + (zm q : Int) ∧ y5 = zs q) := fun q g1 g2 => by
                obtain ⟨-, -, -, t1, t2, t3, t4, t5, t6⟩ := HPT.out q g1 g2
                rw [HN.out] at t3 t4 t5 t6
                rw [Q1.out] at t1
                rw [Q2.out] at t2
                rw [Q3.out] at t3
                rw [Q4.out] at t4
                rw [Q5.out] at t5
                have u1 := HV.out
                have u2 := HH.out
                have u3 := HM.out
                rw [t3] at u1
                rw [t4] at u2
                rw [t5] at u3
                have b1 := g1.2.2.1
                have b2 := g1.2.2.2
                have k1 : zh q < 100 := by unfold zh; omega
                have k2 : zm q < 100 := by unfold zm; omega
                refine ⟨t1, t2, num_dig (by omega) u1, num_two k1 u2, num_two k2 u3, ?_⟩
                rw [HY5.out] at t6
                exact Option.some.inj t6
              have HPV : Hid (∀ z, perV ⟨a1, a2, v, z⟩ = #[.string A1, .string A2, .int .i64 v, .int .i64 z]) := fun z => by unfold perV; rw [← R1.out, ← R2.out]
              have NO2 : Hid ((∀ q, okP q → perB q ≠ s) → PostRP s (.returned (.tuple #[.agg #[.string A1, .string A2, .int .i64 v, .int .i64 0], .bool false]))) := fun h => ⟨⟨a1, a2, v, 0⟩, false, by rw [HPV.out], (fun h => by cases h), fun q h1 h2 => absurd h2 (h q h1)⟩
              by_cases hh0 : h < 0
              · have HNO : Hid (∀ q, okP q → perB q ≠ s) := fun q g1 g2 => by have := (HQV.out q g1 g2).2.2.2.1; omega
                have E1 : Hid (w3.there G 0 (#[.string A1, .string A2, .int .i64 v, .int .i64 0] : Array Value).size) := hid (there_off PB3.out.res 0 (Nat.le_refl _))
                have E2 : Hid ((Tryz.prog.info? 64).map (·.size) = some (#[.string A1, .string A2, .int .i64 v, .int .i64 0] : Array Value).size) := Tryz.size64
                have E3 : Hid ((#[.string A1, .string A2, .int .i64 v, .int .i64 0] : Array Value).all (·.oneCell') = true) := hid (all_oneCell_toArray (fun v hv => by simp only [List.mem_cons, List.not_mem_nil, or_false] at hv; rcases hv with rfl | rfl | rfl | rfl <;> rfl))
                go_wp2_with (refine wpList_store_mid rfl 64 _ _ rfl G 0 #[.string A1, .string A2, .int .i64 v, .int .i64 0] rfl rfl E1.out E2.out E3.out ?_)
                refine bodyPost_ret (v := .tuple #[.agg #[.string A1, .string A2, .int .i64 v, .int .i64 0], .bool false]) (results_mid2 Tryz.results109 _ _ G (#[.string A1, .string A2, .int .i64 v, .int .i64 0] : Array Value).toList _ rfl (World.rangeAt_setCells_same w3 G 0 _ E1.out) Tryz.underlying64 rfl Tryz.size64) rfl ⟨?_, ?_⟩
                · rw [HG.out]; exact below_setCells (Nat.le_refl _) _ _ _ _ PB3.out.below
                · exact NO2.out HNO.out
              by_cases hm0 : m < 0
              · have HNO : Hid (∀ q, okP q → perB q ≠ s) := fun q g1 g2 => by have := (HQV.out q g1 g2).2.2.2.2.1; omega
                have E1 : Hid (w3.there G 0 (#[.string A1, .string A2, .int .i64 v, .int .i64 0] : Array Value).size) := hid (there_off PB3.out.res 0 (Nat.le_refl _))
                have E2 : Hid ((Tryz.prog.info? 64).map (·.size) = some (#[.string A1, .string A2, .int .i64 v, .int .i64 0] : Array Value).size) := Tryz.size64
                have E3 : Hid ((#[.string A1, .string A2, .int .i64 v, .int .i64 0] : Array Value).all (·.oneCell') = true) := hid (all_oneCell_toArray (fun v hv => by simp only [List.mem_cons, List.not_mem_nil, or_false] at hv; rcases hv with rfl | rfl | rfl | rfl <;> rfl))
                go_wp2_with (refine wpList_store_mid rfl 64 _ _ rfl G 0 #[.string A1, .string A2, .int .i64 v, .int .i64 0] rfl rfl E1.out E2.out E3.out ?_)
                refine bodyPost_ret (v := .tuple #[.agg #[.string A1, .string A2, .int .i64 v, .int .i64 0], .bool false]) (results_mid2 Tryz.results109 _ _ G (#[.string A1, .string A2, .int .i64 v, .int .i64 0] : Array Value).toList _ rfl (World.rangeAt_setCells_same w3 G 0 _ E1.out) Tryz.underlying64 rfl Tryz.size64) rfl ⟨?_, ?_⟩
                · rw [HG.out]; exact below_setCells (Nat.le_refl _) _ _ _ _ PB3.out.below
                · exact NO2.out HNO.out
              have hb1 : 0 ≤ h ∧ h < 1000 := by
                rcases num_three (by simp [q4.out]) HH.out with h | h
                · omega
                · exact h
              have hb2 : 0 ≤ m ∧ m < 1000 := by
                rcases num_three (by simp [q5.out]) HM.out with h | h
                · omega
                · exact h
              obtain ⟨hb1, hb1'⟩ := hb1
              obtain ⟨hb2, hb2'⟩ := hb2
              obtain ⟨z, HZ⟩ : ∃ z, Hid (z = (h - 100) * 60 + m - 100) := ⟨_, rfl⟩
              have hzz : (h - 100) * 60 + m - 100 = z := HZ.out.symm
              have hz1 : -10000 ≤ z := by rw [HZ.out]; omega
              have hz2 : z ≤ 100000 := by rw [HZ.out]; omega
              by_cases h45 : d5 = 45
              · have HSG : Hid (y5 = 45) := hid ((u8_ne (n := 45) (by decide)).1 (HD5.out.trans h45))
                clear HD5
                subst h45
                have HPQ : Hid (∀ q, okP q → perB q = s → (⟨a1, a2, v, (-z)⟩ : Per) = q) := fun q g1 g2 => by
                  obtain ⟨t1, t2, t3, t4, t5, t6⟩ := HQV.out q g1 g2
                  refine per_back q g1 z (by rw [HZ.out, t4, t5]) _ t1 t2 t3 (fun g => ?_) (fun g => ?_)
                  · rfl
                  · exact absurd (t6.symm.trans HSG.out) g
                have CX : Hid (∀ W, Calls Tryz.prog 58 #[.agg #[.string A1, .string A2, .int .i64 v, .int .i64 (-z)]] W (PostX ⟨a1, a2, v, (-z)⟩ W)) := fun W => by rw [← HPV.out]; exact text_any _ W
                go_wp2_with fail
                have PB4 : Hid (PB G A1 A2 v (-z) w ((w3.setCell ⟨G + 1, 3, none⟩ (.int .i64 z)).setCell ⟨G + 1, 3, none⟩ (.int .i64 (-z)))) := (PB3.out.step (A' := A1) (B' := A2) (T' := v) (Z' := z) 3 _ rfl).step 3 _ rfl
                generalize (w3.setCell ⟨G + 1, 3, none⟩ (.int .i64 z)).setCell ⟨G + 1, 3, none⟩ (.int .i64 (-z)) = w4 at PB4 ⊢
                clear c0 c1 c2 c3 cf
                refine (CX.out w4).mono ?_
                rintro ev w5 ⟨hb5, hor⟩
                have PB5 : Hid (PB G A1 A2 v (-z) w w5) := PB4.out.grow hb5
                clear hb5
                obtain ⟨c0, c1, c2, c3, cf⟩ := PB5.out.cells
                rcases hor with ⟨hok, rfl⟩ | ⟨hno, rfl⟩
                · have HOK : Hid (okP ⟨a1, a2, v, (-z)⟩) := hok
                  clear hok
                  obtain ⟨TX, HTX⟩ : ∃ S : ByteArray, Hid (⟨(perB ⟨a1, a2, v, (-z)⟩).toArray⟩ = S) := ⟨_, rfl⟩
                  rw [HTX.out]
                  obtain ⟨bq, heq⟩ : ∃ b : Bool, (TX.toList == S.toList) = b := ⟨_, rfl⟩
                  have HEI : Hid (bq = true ↔ perB ⟨a1, a2, v, (-z)⟩ = s) := hid (by
                    rw [← heq, ← HTX.out, ← HS.out, Lib.toList_data, Lib.toList_data]
                    simp)
                  have FIN : Hid (PostRP s (.returned (.tuple #[.agg #[.string A1, .string A2, .int .i64 v, .int .i64 (-z)], .bool bq]))) := ⟨⟨a1, a2, v, (-z)⟩, bq, by rw [HPV.out], fun h => ⟨HOK.out, HEI.out.1 h⟩, fun q g1 g2 => HEI.out.2 (by rw [HPQ.out q g1 g2]; exact g2)⟩
                  clear HEI
                  have E1 : Hid (w5.there G 0 (#[.string A1, .string A2, .int .i64 v, .int .i64 (-z)] : Array Value).size) := hid (there_off PB5.out.res 0 (Nat.le_refl _))
                  have E2 : Hid ((Tryz.prog.info? 64).map (·.size) = some (#[.string A1, .string A2, .int .i64 v, .int .i64 (-z)] : Array Value).size) := Tryz.size64
                  have E3 : Hid ((#[.string A1, .string A2, .int .i64 v, .int .i64 (-z)] : Array Value).all (·.oneCell') = true) := hid (all_oneCell_toArray (fun v hv => by simp only [List.mem_cons, List.not_mem_nil, or_false] at hv; rcases hv with rfl | rfl | rfl | rfl <;> rfl))
                  go_wp2_with (refine wpList_store_mid rfl 64 _ _ rfl G 0 #[.string A1, .string A2, .int .i64 v, .int .i64 (-z)] rfl rfl E1.out E2.out E3.out ?_)
                  refine bodyPost_ret (v := .tuple #[.agg #[.string A1, .string A2, .int .i64 v, .int .i64 (-z)], .bool bq]) (results_mid2 Tryz.results109 _ _ G (#[.string A1, .string A2, .int .i64 v, .int .i64 (-z)] : Array Value).toList _ rfl (World.rangeAt_setCells_same w5 G 0 _ E1.out) Tryz.underlying64 rfl Tryz.size64) rfl ⟨?_, ?_⟩
                  · rw [HG.out]; exact below_setCells (Nat.le_refl _) _ _ _ _ PB5.out.below
                  · exact FIN.out
                · have HNK : Hid (¬ okP ⟨a1, a2, v, (-z)⟩) := hno
                  clear hno
                  have FIN : Hid (PostRP s (.returned (.tuple #[.agg #[.string A1, .string A2, .int .i64 v, .int .i64 (-z)], .bool false]))) := ⟨⟨a1, a2, v, (-z)⟩, false, by rw [HPV.out], (fun h => by cases h), fun q g1 g2 => absurd (by rw [HPQ.out q g1 g2]; exact g1) HNK.out⟩
                  have E1 : Hid (w5.there G 0 (#[.string A1, .string A2, .int .i64 v, .int .i64 (-z)] : Array Value).size) := hid (there_off PB5.out.res 0 (Nat.le_refl _))
                  have E2 : Hid ((Tryz.prog.info? 64).map (·.size) = some (#[.string A1, .string A2, .int .i64 v, .int .i64 (-z)] : Array Value).size) := Tryz.size64
                  have E3 : Hid ((#[.string A1, .string A2, .int .i64 v, .int .i64 (-z)] : Array Value).all (·.oneCell') = true) := hid (all_oneCell_toArray (fun v hv => by simp only [List.mem_cons, List.not_mem_nil, or_false] at hv; rcases hv with rfl | rfl | rfl | rfl <;> rfl))
                  go_wp2_with (refine wpList_store_mid rfl 64 _ _ rfl G 0 #[.string A1, .string A2, .int .i64 v, .int .i64 (-z)] rfl rfl E1.out E2.out E3.out ?_)
                  refine bodyPost_ret (v := .tuple #[.agg #[.string A1, .string A2, .int .i64 v, .int .i64 (-z)], .bool false]) (results_mid2 Tryz.results109 _ _ G (#[.string A1, .string A2, .int .i64 v, .int .i64 (-z)] : Array Value).toList _ rfl (World.rangeAt_setCells_same w5 G 0 _ E1.out) Tryz.underlying64 rfl Tryz.size64) rfl ⟨?_, ?_⟩
                  · rw [HG.out]; exact below_setCells (Nat.le_refl _) _ _ _ _ PB5.out.below
                  · exact FIN.out
              · have HSG : Hid (y5 ≠ 45) := fun e => h45 (HD5.out.symm.trans (by rw [e]; rfl))
                have h45b : (d5 == 45) = false := by simpa using h45
                have HPQ : Hid (∀ q, okP q → perB q = s → (⟨a1, a2, v, z⟩ : Per) = q) := fun q g1 g2 => by
                  obtain ⟨t1, t2, t3, t4, t5, t6⟩ := HQV.out q g1 g2
                  refine per_back q g1 z (by rw [HZ.out, t4, t5]) _ t1 t2 t3 (fun g => ?_) (fun g => ?_)
                  · exact absurd (t6.trans g) HSG.out
                  · rfl
                have CX : Hid (∀ W, Calls Tryz.prog 58 #[.agg #[.string A1, .string A2, .int .i64 v, .int .i64 z]] W (PostX ⟨a1, a2, v, z⟩ W)) := fun W => by rw [← HPV.out]; exact text_any _ W
                go_wp2_with fail
                have PB4 : Hid (PB G A1 A2 v z w (w3.setCell ⟨G + 1, 3, none⟩ (.int .i64 z))) := PB3.out.step 3 _ rfl
                generalize w3.setCell ⟨G + 1, 3, none⟩ (.int .i64 z) = w4 at PB4 ⊢
                clear c0 c1 c2 c3 cf
                refine (CX.out w4).mono ?_
                rintro ev w5 ⟨hb5, hor⟩
                have PB5 : Hid (PB G A1 A2 v z w w5) := PB4.out.grow hb5
                clear hb5
                obtain ⟨c0, c1, c2, c3, cf⟩ := PB5.out.cells
                rcases hor with ⟨hok, rfl⟩ | ⟨hno, rfl⟩
                · have HOK : Hid (okP ⟨a1, a2, v, z⟩) := hok
                  clear hok
                  obtain ⟨TX, HTX⟩ : ∃ S : ByteArray, Hid (⟨(perB ⟨a1, a2, v, z⟩).toArray⟩ = S) := ⟨_, rfl⟩
                  rw [HTX.out]
                  obtain ⟨bq, heq⟩ : ∃ b : Bool, (TX.toList == S.toList) = b := ⟨_, rfl⟩
                  have HEI : Hid (bq = true ↔ perB ⟨a1, a2, v, z⟩ = s) := hid (by
                    rw [← heq, ← HTX.out, ← HS.out, Lib.toList_data, Lib.toList_data]
                    simp)
                  have FIN : Hid (PostRP s (.returned (.tuple #[.agg #[.string A1, .string A2, .int .i64 v, .int .i64 z], .bool bq]))) := ⟨⟨a1, a2, v, z⟩, bq, by rw [HPV.out], fun h => ⟨HOK.out, HEI.out.1 h⟩, fun q g1 g2 => HEI.out.2 (by rw [HPQ.out q g1 g2]; exact g2)⟩
                  clear HEI
                  have E1 : Hid (w5.there G 0 (#[.string A1, .string A2, .int .i64 v, .int .i64 z] : Array Value).size) := hid (there_off PB5.out.res 0 (Nat.le_refl _))
                  have E2 : Hid ((Tryz.prog.info? 64).map (·.size) = some (#[.string A1, .string A2, .int .i64 v, .int .i64 z] : Array Value).size) := Tryz.size64
                  have E3 : Hid ((#[.string A1, .string A2, .int .i64 v, .int .i64 z] : Array Value).all (·.oneCell') = true) := hid (all_oneCell_toArray (fun v hv => by simp only [List.mem_cons, List.not_mem_nil, or_false] at hv; rcases hv with rfl | rfl | rfl | rfl <;> rfl))
                  go_wp2_with (refine wpList_store_mid rfl 64 _ _ rfl G 0 #[.string A1, .string A2, .int .i64 v, .int .i64 z] rfl rfl E1.out E2.out E3.out ?_)
                  refine bodyPost_ret (v := .tuple #[.agg #[.string A1, .string A2, .int .i64 v, .int .i64 z], .bool bq]) (results_mid2 Tryz.results109 _ _ G (#[.string A1, .string A2, .int .i64 v, .int .i64 z] : Array Value).toList _ rfl (World.rangeAt_setCells_same w5 G 0 _ E1.out) Tryz.underlying64 rfl Tryz.size64) rfl ⟨?_, ?_⟩
                  · rw [HG.out]; exact below_setCells (Nat.le_refl _) _ _ _ _ PB5.out.below
                  · exact FIN.out
                · have HNK : Hid (¬ okP ⟨a1, a2, v, z⟩) := hno
                  clear hno
                  have FIN : Hid (PostRP s (.returned (.tuple #[.agg #[.string A1, .string A2, .int .i64 v, .int .i64 z], .bool false]))) := ⟨⟨a1, a2, v, z⟩, false, by rw [HPV.out], (fun h => by cases h), fun q g1 g2 => absurd (by rw [HPQ.out q g1 g2]; exact g1) HNK.out⟩
                  have E1 : Hid (w5.there G 0 (#[.string A1, .string A2, .int .i64 v, .int .i64 z] : Array Value).size) := hid (there_off PB5.out.res 0 (Nat.le_refl _))
                  have E2 : Hid ((Tryz.prog.info? 64).map (·.size) = some (#[.string A1, .string A2, .int .i64 v, .int .i64 z] : Array Value).size) := Tryz.size64
                  have E3 : Hid ((#[.string A1, .string A2, .int .i64 v, .int .i64 z] : Array Value).all (·.oneCell') = true) := hid (all_oneCell_toArray (fun v hv => by simp only [List.mem_cons, List.not_mem_nil, or_false] at hv; rcases hv with rfl | rfl | rfl | rfl <;> rfl))
                  go_wp2_with (refine wpList_store_mid rfl 64 _ _ rfl G 0 #[.string A1, .string A2, .int .i64 v, .int .i64 z] rfl rfl E1.out E2.out E3.out ?_)
                  refine bodyPost_ret (v := .tuple #[.agg #[.string A1, .string A2, .int .i64 v, .int .i64 z], .bool false]) (results_mid2 Tryz.results109 _ _ G (#[.string A1, .string A2, .int .i64 v, .int .i64 z] : Array Value).toList _ rfl (World.rangeAt_setCells_same w5 G 0 _ E1.out) Tryz.underlying64 rfl Tryz.size64) rfl ⟨?_, ?_⟩
                  · rw [HG.out]; exact below_setCells (Nat.le_refl _) _ _ _ _ PB5.out.below
                  · exact FIN.out
            · have hdb : (d != 62) = true := by simpa using hd
              go_wp2
              go_roundg (n - (sh + 1))
              case measure => omega
              case rel =>
                refine ⟨sh + 1, by omega, by omega, rfl, by go_num, hid ?_, hid rfl⟩
                rw [take_snoc8 s sh y HY.out, List.drop_append_of_le_length (by rw [List.length_take, HN.out]; omega)]
                intro u hu
                rcases List.mem_append.1 hu with hu | hu
                · exact HT2.out u hu
                · have : u = y := by simpa using hu
                  subst this
                  rintro rfl
                  exact hd (HD.out.symm.trans rfl)
          · have hlti2 : ¬ (sh : Int) < (n : Int) := by omega
            have hge2 : (n : Int) ≤ (sh : Int) := by omega
            have HNO : Hid (∀ q, okP q → perB q ≠ s) := fun q h1 h2 => by
              have h3 := per_parts q h1 s h2 o sh HT.out (.inr HO2.out) hsh1 HT2.out (.inl (by rw [HN.out]; omega))
              have h4 := h3.2.2.1
              rw [HN.out] at h4
              omega
            obtain ⟨c0, c1, c2, c3, cf⟩ := PB1.out.cells
            by_cases ho1 : (o : Int) < 1
            · have E1 : Hid (w1.there G 0 (#[.string ⟨#[]⟩, .string ⟨#[]⟩, .int .i64 0, .int .i64 0] : Array Value).size) := hid (there_off PB1.out.res 0 (Nat.le_refl _))
              have E2 : Hid ((Tryz.prog.info? 64).map (·.size) = some (#[.string ⟨#[]⟩, .string ⟨#[]⟩, .int .i64 0, .int .i64 0] : Array Value).size) := Tryz.size64
              have E3 : Hid ((#[.string ⟨#[]⟩, .string ⟨#[]⟩, .int .i64 0, .int .i64 0] : Array Value).all (·.oneCell') = true) := hid (all_oneCell_toArray (fun v hv => by simp only [List.mem_cons, List.not_mem_nil, or_false] at hv; rcases hv with rfl | rfl | rfl | rfl <;> rfl))
              go_wp2_with (refine wpList_store_mid rfl 64 _ _ rfl G 0 #[.string ⟨#[]⟩, .string ⟨#[]⟩, .int .i64 0, .int .i64 0] rfl rfl E1.out E2.out E3.out ?_)
              refine bodyPost_ret (v := .tuple #[.agg #[.string ⟨#[]⟩, .string ⟨#[]⟩, .int .i64 0, .int .i64 0], .bool false]) (results_mid2 Tryz.results109 _ _ G (#[.string ⟨#[]⟩, .string ⟨#[]⟩, .int .i64 0, .int .i64 0] : Array Value).toList _ rfl (World.rangeAt_setCells_same w1 G 0 _ E1.out) Tryz.underlying64 rfl Tryz.size64) rfl ⟨?_, ?_⟩
              · rw [HG.out]; exact below_setCells (Nat.le_refl _) _ _ _ _ PB1.out.below
              · exact NOP.out HNO.out
            · have E1 : Hid (w1.there G 0 (#[.string ⟨#[]⟩, .string ⟨#[]⟩, .int .i64 0, .int .i64 0] : Array Value).size) := hid (there_off PB1.out.res 0 (Nat.le_refl _))
              have E2 : Hid ((Tryz.prog.info? 64).map (·.size) = some (#[.string ⟨#[]⟩, .string ⟨#[]⟩, .int .i64 0, .int .i64 0] : Array Value).size) := Tryz.size64
              have E3 : Hid ((#[.string ⟨#[]⟩, .string ⟨#[]⟩, .int .i64 0, .int .i64 0] : Array Value).all (·.oneCell') = true) := hid (all_oneCell_toArray (fun v hv => by simp only [List.mem_cons, List.not_mem_nil, or_false] at hv; rcases hv with rfl | rfl | rfl | rfl <;> rfl))
              go_wp2_with (refine wpList_store_mid rfl 64 _ _ rfl G 0 #[.string ⟨#[]⟩, .string ⟨#[]⟩, .int .i64 0, .int .i64 0] rfl rfl E1.out E2.out E3.out ?_)
              refine bodyPost_ret (v := .tuple #[.agg #[.string ⟨#[]⟩, .string ⟨#[]⟩, .int .i64 0, .int .i64 0], .bool false]) (results_mid2 Tryz.results109 _ _ G (#[.string ⟨#[]⟩, .string ⟨#[]⟩, .int .i64 0, .int .i64 0] : Array Value).toList _ rfl (World.rangeAt_setCells_same w1 G 0 _ E1.out) Tryz.underlying64 rfl Tryz.size64) rfl ⟨?_, ?_⟩
              · rw [HG.out]; exact below_setCells (Nat.le_refl _) _ _ _ _ PB1.out.below
              · exact NOP.out HNO.out
      · have hcb : (c != 60) = true := by simpa using hc
        go_wp2
        go_roundg (n - (o + 1))
        case measure => omega
        case rel =>
          refine ⟨o + 1, by omega, rfl, by go_num, hid ?_, hid rfl⟩
          rw [take_snoc8 s o x HX.out]
          intro u hu
          rcases List.mem_append.1 hu with hu | hu
          · exact HT.out u hu
          · have : u = x := by simpa using hu
            subst this
            rintro rfl
            exact hc (HC.out.symm.trans rfl)
    · have hlti : ¬ (o : Int) < (n : Int) := by omega
      go_wp2
      go_loopg [6] (n - o) (fun g i wr => ∃ sh : Nat, o ≤ sh ∧ sh ≤ n ∧ g = n - sh ∧ i = .int .i64 sh ∧ Hid (∀ x ∈ (s.take sh).drop o, x ≠ 62) ∧ Hid (wr = w1))
      case atStart => exact ⟨o, by omega, by omega, rfl, rfl, hid (by simp), hid rfl⟩
      case round =>
        obtain ⟨sh, hsh1, hsh, hk2, rfl, HT2, HWR⟩ := hrel
        have h2 : w1 = wr := HWR.out.symm
        subst h2
        clear HWR
        have hlti2 : ¬ (sh : Int) < (n : Int) := by omega
        have hge2 : (n : Int) ≤ (sh : Int) := by omega
        have HNO : Hid (∀ q, okP q → perB q ≠ s) := fun q h1 h2 => by
          have h3 := per_parts q h1 s h2 o sh HT.out (.inl (by rw [HN.out]; omega)) hsh1 HT2.out (.inl (by rw [HN.out]; omega))
          have h4 := h3.2.2.1
          rw [HN.out] at h4
          omega
        obtain ⟨c0, c1, c2, c3, cf⟩ := PB1.out.cells
        by_cases ho1 : (o : Int) < 1
        · have E1 : Hid (w1.there G 0 (#[.string ⟨#[]⟩, .string ⟨#[]⟩, .int .i64 0, .int .i64 0] : Array Value).size) := hid (there_off PB1.out.res 0 (Nat.le_refl _))
          have E2 : Hid ((Tryz.prog.info? 64).map (·.size) = some (#[.string ⟨#[]⟩, .string ⟨#[]⟩, .int .i64 0, .int .i64 0] : Array Value).size) := Tryz.size64
          have E3 : Hid ((#[.string ⟨#[]⟩, .string ⟨#[]⟩, .int .i64 0, .int .i64 0] : Array Value).all (·.oneCell') = true) := hid (all_oneCell_toArray (fun v hv => by simp only [List.mem_cons, List.not_mem_nil, or_false] at hv; rcases hv with rfl | rfl | rfl | rfl <;> rfl))
          go_wp2_with (refine wpList_store_mid rfl 64 _ _ rfl G 0 #[.string ⟨#[]⟩, .string ⟨#[]⟩, .int .i64 0, .int .i64 0] rfl rfl E1.out E2.out E3.out ?_)
          refine bodyPost_ret (v := .tuple #[.agg #[.string ⟨#[]⟩, .string ⟨#[]⟩, .int .i64 0, .int .i64 0], .bool false]) (results_mid2 Tryz.results109 _ _ G (#[.string ⟨#[]⟩, .string ⟨#[]⟩, .int .i64 0, .int .i64 0] : Array Value).toList _ rfl (World.rangeAt_setCells_same w1 G 0 _ E1.out) Tryz.underlying64 rfl Tryz.size64) rfl ⟨?_, ?_⟩
          · rw [HG.out]; exact below_setCells (Nat.le_refl _) _ _ _ _ PB1.out.below
          · exact NOP.out HNO.out
        · have E1 : Hid (w1.there G 0 (#[.string ⟨#[]⟩, .string ⟨#[]⟩, .int .i64 0, .int .i64 0] : Array Value).size) := hid (there_off PB1.out.res 0 (Nat.le_refl _))
          have E2 : Hid ((Tryz.prog.info? 64).map (·.size) = some (#[.string ⟨#[]⟩, .string ⟨#[]⟩, .int .i64 0, .int .i64 0] : Array Value).size) := Tryz.size64
          have E3 : Hid ((#[.string ⟨#[]⟩, .string ⟨#[]⟩, .int .i64 0, .int .i64 0] : Array Value).all (·.oneCell') = true) := hid (all_oneCell_toArray (fun v hv => by simp only [List.mem_cons, List.not_mem_nil, or_false] at hv; rcases hv with rfl | rfl | rfl | rfl <;> rfl))
          go_wp2_with (refine wpList_store_mid rfl 64 _ _ rfl G 0 #[.string ⟨#[]⟩, .string ⟨#[]⟩, .int .i64 0, .int .i64 0] rfl rfl E1.out E2.out E3.out ?_)
          refine bodyPost_ret (v := .tuple #[.agg #[.string ⟨#[]⟩, .string ⟨#[]⟩, .int .i64 0, .int .i64 0], .bool false]) (results_mid2 Tryz.results109 _ _ G (#[.string ⟨#[]⟩, .string ⟨#[]⟩, .int .i64 0, .int .i64 0] : Array Value).toList _ rfl (World.rangeAt_setCells_same w1 G 0 _ E1.out) Tryz.underlying64 rfl Tryz.size64) rfl ⟨?_, ?_⟩
          · rw [HG.out]; exact below_setCells (Nat.le_refl _) _ _ _ _ PB1.out.below
          · exact NOP.out HNO.out
end Go.Proofs.YtbpdielmdhhdfaaGreatDoor
