import Derived.Test.YtmpjapcijjjlbaaGreatDoorQd14
namespace Go.Proofs.YtmpjapcijjjlbaaGreatDoor
open Go.RowKit
set_option linter.unusedVariables false
set_option linter.unusedSimpArgs false
theorem app_edK {e t : TypeId} (hu : Tryz.prog.underlying t = some (.slice e)) (hin : (Tryz.prog.info? e).map (fun i => (i.zero, i.size, i.bytes)) = some (some (.agg #[.int .i64 0, .string ⟨#[]⟩]), 2, 24)) {w0 wr : World} {G m lc : Nat} {la : Option Addr} {L : List Ed} (hB : BE e w0 wr G (.slice la m lc) L) (hLm : L.length = m) (hm : m ≤ 20000) (k : Nat) (x : Str) (K : Int) (hKk : K = (k : Int)) (T : ByteArray) (hT : (⟨x.toArray⟩ : ByteArray) = T)
    {ops : Array Oper} {rest : List Oper} {o : Oper} {ac : Act} {Q : Exit → Act → World → Prop} (hg : o.guard = none) (s y : Operand) (ho : o.op = .call { callee := .builtin .append, args := #[s, y], argTypes := #[t, t] }) (hs : ac.eval s = .slice la m lc) (hy : ac.eval y = .slice (some ⟨wr.heap.size, 0, none⟩) 1 1)
    (hK : ∀ a' c' w', Hid (BE e w0 w' G (.slice a' (m + 1 : Nat) c') (L ++ [(k, x)])) → wpList Tryz.prog ops Q rest (ac.put o.dst (.slice a' (m + 1 : Nat) c')) w') : wpList Tryz.prog ops Q (o :: rest) ac (wr.alloc (.cells #[.int .i64 K, .string T] e)) := by
  subst hKk
  subst hT
  exact app_ed hu hin hB hLm hm (k, x) _ rfl hg s y ho hs hy hK
theorem Tb.carry {T p q : Nat} {w wr w' : World} {t : Nat → Nat → Nat} (h : Tb T p q w wr t) (hb : Below wr.heap.size wr w') : Tb T p q w w' t := by
  have hs := h.size
  refine ⟨h.below.trans (hb.mono (by omega)), Nat.le_trans h.size hb.size, fun j hj => (hb.cell (p := ⟨T, j, none⟩) (by show T < _; omega)).trans (h.outer j hj), fun j k hj hk => ⟨(hb.cell (p := ⟨T + 1 + j, k, none⟩) (by show T + 1 + j < _; omega)).trans (h.rows j k hj hk).1, ?_⟩⟩
  rw [frozen_block (hb.block (T + 1 + j) (by omega)) k]
  exact (h.rows j k hj hk).2
theorem num_map {f : Str → Option Int} {A : List Str} {X : List Int} (hl : X.length = A.length) (h : ∀ j, j < A.length → f (A.getD j []) = some (X.getD j 0)) : X = A.map (fun s => (f s).getD 0) := by
  refine List.ext_getElem (by simpa using hl) (fun j h1 h2 => ?_)
  have h3 := h j (by omega)
  rw [List.getD_eq_getElem?_getD, List.getD_eq_getElem?_getD, List.getElem?_eq_getElem (by omega), List.getElem?_eq_getElem h1] at h3
  simp only [Option.getD_some] at h3
  rw [List.getElem_map, h3]
  rfl
def PostW (l : List Ed) (w : World) (e : Ending) (w' : World) : Prop := ∃ v, e = .returned v ∧ BE 43 w w' w.heap.size v l
set_option maxRecDepth 20000 in
set_option maxHeartbeats 8000000 in
theorem weave_any {w : World} (a : Option Addr) (ca : Nat) (A : List Str) (hA : PS w a ca A) (hab : ∀ p : Addr, a = some p → p.block < w.heap.size) (b : Option Addr) (cb : Nat) (B : List Str) (hB : PS w b cb B) (hbb : ∀ p : Addr, b = some p → p.block < w.heap.size) (hAl : A.length ≤ 2000) (hBl : B.length ≤ 2000) (hAs : ∀ x ∈ A, x.length ≤ 4000) (hBs : ∀ x ∈ B, x.length ≤ 4000) :
    Calls Tryz.prog 27 #[.slice a A.length ca, .slice b B.length cb] w (PostW (ed A B) w) := by
  obtain ⟨n, HN⟩ : ∃ n, Hid (A.length = n) := ⟨_, rfl⟩
  obtain ⟨m, HM⟩ : ∃ n, Hid (B.length = n) := ⟨_, rfl⟩
  obtain ⟨g, HG⟩ : ∃ g, Hid (w.heap.size = g) := ⟨_, rfl⟩
  have hn4 : n ≤ 2000 := by rw [← HN.out]; exact hAl
  have hm4 : m ≤ 2000 := by rw [← HM.out]; exact hBl
  obtain ⟨w1, HW1⟩ : ∃ u, Hid (w.alloc (.map #[] 0) = u) := ⟨_, rfl⟩
  have hb1 : Below w.heap.size w w1 := by rw [← HW1.out]; exact (Below.refl _ w).alloc (Nat.le_refl _) _
  have HS1 : Hid (w1.heap.size = g + 1) := hid (by rw [← HW1.out, ← HG.out]; simp)
  have hms : MS w1 g 0 (fun _ => none) 0 := by rw [← HW1.out, ← HG.out]; exact ms_made w
  have HPA : Hid (∀ W, Below g w W → PS W a ca A) := fun W hW => hA.below (by rw [HG.out]; exact hW)
  have HPB : Hid (∀ W, Below g w W → PS W b cb B) := fun W hW => hB.below (by rw [HG.out]; exact hW)
  have HFA : Hid (0 < n → ∃ b off, a = some ⟨b, off, none⟩) := fun h0 => by
    obtain ⟨b, off, e1, _⟩ := hA.at_ (by rw [HN.out]; exact h0)
    exact ⟨b, off, e1⟩
  have HFB : Hid (0 < m → ∃ c off, b = some ⟨c, off, none⟩) := fun h0 => by
    obtain ⟨b, off, e1, _⟩ := hB.at_ (by rw [HM.out]; exact h0)
    exact ⟨b, off, e1⟩
  have C1 : Hid (Calls Tryz.prog 49 #[.map (some g), .slice a n ca] w1 (PostN A n (g + 1) g 0 (fun _ => none) w1)) := hid (by
    have := numLines_any g 0 0 (fun _ => none) hms nb_none (by omega) a ca A (hA.below hb1) (fun p hp => by have := hab p hp; rw [HG.out] at this; omega) (by omega) hAs
    rw [HN.out, HS1.out] at this
    exact this)
  have C2 : Hid (∀ W f k nn, Below g w W → MS W g nn f k → Nb f k → nn ≤ 10000 → Calls Tryz.prog 49 #[.map (some g), .slice b m cb] W (PostN B m W.heap.size g nn f W)) := fun W f k nn hW hM hN hnn => by
    have := numLines_any g nn k f hM hN (by omega) b cb B (HPB.out W hW) (fun p hp => by have := hbb p hp; rw [HG.out] at this; omega) (by omega) hBs
    rw [HM.out] at this
    exact this
  have hmk : (Instr.makeMap 107 none).run Tryz.prog w = .ok (.map (some g)) w1 := by rw [← HW1.out, ← HG.out]; rfl
  have HB1 : Hid (Below g w w1) := hid (by rw [← HG.out]; exact hb1)
  obtain ⟨E, HE⟩ : ∃ E, Hid (ed A B = E) := ⟨_, rfl⟩
  have hEl : E.length ≤ 4000 := by rw [← HE.out]; have := ed_len A B; rw [HN.out, HM.out] at this; omega
  rw [HN.out, HM.out, HE.out]
  clear hA hB hab hbb hAl hBl hAs hBs hb1 hms
  go_enter Tryz.func27, Tryz.ntmps27
  go_wp2_with fail
  refine C1.out.mono ?_
  rintro e w2 ⟨f1, k1, nn1, X, rfl, hik1, hms1, hnn1, hnb1, _, hat1⟩
  have HB2 : Hid (Below g w w2) := hid (HB1.out.trans ⟨hik1.grown.os, hik1.grown.tape, hik1.grown.output, hik1.grown.size, fun k hk => hik1.grown.block k (by rw [HS1.out]; omega) (by simp; omega)⟩)
  have HXL : Hid (X.length = n) := hik1.len
  have HPX2 : Hid (PI w2 (some ⟨g + 1, 0, none⟩) n X) := hid hik1.pi
  have HAT1 : Hid (∀ j, j < n → f1 (A.getD j []) = some (X.getD j 0)) := hat1
  have C2' : Hid (Calls Tryz.prog 49 #[.map (some g), .slice b m cb] w2 (PostN B m w2.heap.size g nn1 f1 w2)) := hid (C2.out w2 f1 k1 nn1 HB2.out hms1 hnb1 (by omega))
  obtain ⟨I, HI⟩ : ∃ I, Hid (w2.heap.size = I) := ⟨_, rfl⟩
  have hgI : g + 1 < I := by rw [← HI.out]; exact hik1.lt
  rw [HI.out] at C2'
  clear hik1 hms1 hnb1 hat1
  go_wp2_with fail
  refine C2'.out.mono ?_
  rintro e w3 ⟨f2, k2, nn2, Y, rfl, hik2, hms2, hnn2, hnb2, hext, hat2⟩
  have HB3 : Hid (Below g w w3) := hid (HB2.out.trans ⟨hik2.grown.os, hik2.grown.tape, hik2.grown.output, hik2.grown.size, fun k hk => hik2.grown.block k (by rw [HI.out]; omega) (by simp; omega)⟩)
  have HYL : Hid (Y.length = m) := hik2.len
  have hPY3 : PI w3 (some ⟨I, 0, none⟩) m Y := hik2.pi
  have hPX3 : PI w3 (some ⟨g + 1, 0, none⟩) n X := HPX2.out.grown (fun p hp => by cases hp; show g + 1 ≠ g; omega) hik2.grown
  have HXM : Hid (X = A.map (fun s => (f2 s).getD 0)) := hid (num_map (by rw [HXL.out, HN.out]) (fun j hj => hext _ _ (HAT1.out j (by rw [← HN.out]; exact hj))))
  have HYM : Hid (Y = B.map (fun s => (f2 s).getD 0)) := hid (num_map (by rw [HYL.out, HM.out]) (fun j hj => hat2 j (by rw [← HM.out]; exact hj)))
  have HINJ : Hid (∀ x ∈ A, ∀ y ∈ B, (f2 x).getD 0 = (f2 y).getD 0 → x = y) := fun x hx y hy e => by
    obtain ⟨i, hi, ei⟩ := List.getElem_of_mem hx
    obtain ⟨j, hj, ej⟩ := List.getElem_of_mem hy
    have h1 := hext _ _ (HAT1.out i (by rw [← HN.out]; exact hi))
    have h2 := hat2 j (by rw [← HM.out]; exact hj)
    rw [List.getD_eq_getElem?_getD, List.getElem?_eq_getElem hi] at h1
    rw [List.getD_eq_getElem?_getD, List.getElem?_eq_getElem hj] at h2
    simp only [Option.getD_some, ei, ej] at h1 h2
    rw [h1, h2] at e
    simp only [Option.getD_some] at e
    exact hnb2.inj x y _ h1 (by rw [h2, e])
  have C33 : Hid (Calls Tryz.prog 50 #[.slice (some ⟨g + 1, 0, none⟩) n n, .slice (some ⟨I, 0, none⟩) m m] w3 fun e w' => ∃ t, e = .returned (.slice (some ⟨w3.heap.size, 0, none⟩) (n + 1 : Nat) (n + 1 : Nat)) ∧ Tb w3.heap.size (n + 1) (m + 1) w3 w' t ∧ ∀ i k, i ≤ n → k ≤ m → t i k = lcs (X.drop i) (Y.drop k)) := hid (by
    have := common_any (some ⟨g + 1, 0, none⟩) n X hPX3 (some ⟨I, 0, none⟩) m Y hPY3 (by rw [HXL.out]; exact hn4) (by rw [HYL.out]; exact hm4)
    rw [HXL.out, HYL.out] at this
    exact this)
  have HPX3 : Hid (PI w3 (some ⟨g + 1, 0, none⟩) n X) := hPX3
  have HPY3 : Hid (PI w3 (some ⟨I, 0, none⟩) m Y) := hPY3
  obtain ⟨T, HT⟩ : ∃ T, Hid (w3.heap.size = T) := ⟨_, rfl⟩
  rw [HT.out] at C33
  obtain ⟨pp, HPP⟩ : ∃ p, Hid (n + 1 = p) := ⟨_, rfl⟩
  obtain ⟨q, HQQ⟩ : ∃ p, Hid (m + 1 = p) := ⟨_, rfl⟩
  rw [HPP.out, HQQ.out] at C33
  clear hik2 hms2 hnb2 hext hat2 hPX3 hPY3
  go_wp2_with fail
  refine C33.out.mono ?_
  rintro e w4 ⟨t, rfl, htb, hlt⟩
  have HTB4 : Hid (Tb T pp q w3 w4 t) := htb
  have HLT : Hid (∀ i k, i ≤ n → k ≤ m → t i k = lcs (A.drop i) (B.drop k)) := fun i k hi hk => by
    rw [hlt i k hi hk, HXM.out, HYM.out, ← List.map_drop, ← List.map_drop]
    exact lcs_map _ _ _ (fun x hx y hy e => HINJ.out x (List.mem_of_mem_drop hx) y (List.mem_of_mem_drop hy) e)
  have hb34 : Below w3.heap.size w3 w4 := by rw [HT.out]; exact htb.below
  have HB4 : Hid (Below g w w4) := hid (HB3.out.trans (hb34.mono (by have := HB3.out.size; have := HG.out; omega)))
  have HPX4 : Hid (PI w4 (some ⟨g + 1, 0, none⟩) n X) := hid (HPX3.out.below hb34)
  have HPY4 : Hid (PI w4 (some ⟨I, 0, none⟩) m Y) := hid (HPY3.out.below hb34)
  obtain ⟨R, HR⟩ : ∃ R, Hid (w4.heap.size = R) := ⟨_, rfl⟩
  have hgR : g ≤ R := by have := HB4.out.size; have := HG.out; have := HR.out; omega
  have HBW : Hid (∀ W, Below R w4 W → Below g w W) := fun W hW => HB4.out.trans (hW.mono hgR)
  have HXW : Hid (∀ W, Below R w4 W → PI W (some ⟨g + 1, 0, none⟩) n X) := fun W hW => HPX4.out.below (by rw [HR.out]; exact hW)
  have HYW : Hid (∀ W, Below R w4 W → PI W (some ⟨I, 0, none⟩) m Y) := fun W hW => HPY4.out.below (by rw [HR.out]; exact hW)
  have HTW : Hid (∀ W, Below R w4 W → Tb T pp q w3 W t) := fun W hW => HTB4.out.carry (by rw [HR.out]; exact hW)
  clear htb hlt hb34
  have HL0 : Hid (BE 43 w4 w4 R (.slice none 0 0) []) := hid (bx_nil 43 w4 R (by rw [HR.out]; exact Nat.le_refl _))
  go_wp2_with fail
  go_loopg [9, 10, 11] (n + m) (fun gg lv iv kv wr => ∃ (i k l : Nat) (L : List Ed) (la : Option Addr) (lc : Nat), lv = .slice la l lc ∧ iv = .int .i64 i ∧ kv = .int .i64 k ∧ L.length = l ∧ i ≤ n ∧ k ≤ m ∧ gg = (n - i) + (m - k) ∧ Hid (BE 43 w4 wr R (.slice la l lc) L) ∧ Hid (L ++ ed (A.drop i) (B.drop k) = E))
  case atStart => exact ⟨0, 0, 0, [], none, 0, rfl, rfl, rfl, rfl, Nat.zero_le _, Nat.zero_le _, rfl, HL0, hid (by rw [List.drop_zero, List.drop_zero, HE.out]; rfl)⟩
  case round =>
    obtain ⟨i, k, l, L, la, lc, rfl, rfl, rfl, hLl, hi, hk, hgg, HBE, HED⟩ := hrel
    have hl4 : l ≤ 20000 := by
      have := congrArg List.length HED.out
      rw [List.length_append, hLl] at this
      omega
    have hwi : IntKind.i64.wrap ((i : Int) + 1) = (i : Int) + 1 := by rw [IntKind.wrap_i64]; omega
    have hwk : IntKind.i64.wrap ((k : Int) + 1) = (k : Int) + 1 := by rw [IntKind.wrap_i64]; omega
    have hti : ((i : Int) + 1).toNat = i + 1 := by omega
    have htk : ((k : Int) + 1).toNat = k + 1 := by omega
    have h0i : (0 : Int) ≤ (i : Int) + 1 := by omega
    have h0k : (0 : Int) ≤ (k : Int) + 1 := by omega
    have hbd : Below wr.heap.size wr wr.drew := ⟨rfl, rfl, rfl, Nat.le_refl _, fun _ _ => rfl⟩
    have HBEd : Hid (BE 43 w4 wr.drew R (.slice la l lc) L) := hid (HBE.out.carry hbd)
    clear hbd
    by_cases hin : i < n
    · have hinI : (i : Int) < (n : Int) := by omega
      obtain ⟨ba, oa, e1⟩ := HFA.out (by omega)
      subst e1
      obtain ⟨x, HX⟩ : ∃ x, Hid (A.getD i [] = x) := ⟨_, rfl⟩
      obtain ⟨BX, HBX⟩ : ∃ X, Hid ((⟨x.toArray⟩ : ByteArray) = X) := ⟨_, rfl⟩
      have HCX : Hid (∀ W, Below R w4 W → W.cell? ⟨ba, oa + i, none⟩ = some (.string BX)) := fun W hW => by
        rw [← HBX.out, ← HX.out]
        exact PS.str (HPA.out W (HBW.out W hW)) i (by rw [HN.out]; exact hin)
      have HD1 : Hid (∀ W : World, (Instr.buildSlice 23 1 #[(0, .agg #[.int .i64 1, .string BX])]).run Tryz.prog W = .ok (.slice (some ⟨W.heap.size, 0, none⟩) 1 1) (W.alloc (.cells #[.int .i64 1, .string BX] 43))) := fun W => run_build26 1 (.string BX) ⟨_, rfl⟩ W
      by_cases hkm : k < m
      · have hkmI : (k : Int) < (m : Int) := by omega
        have hkne : ((k : Int) == (m : Int)) = false := by simp; omega
        obtain ⟨bb, ob, e1⟩ := HFB.out (by omega)
        subst e1
        obtain ⟨y, HY⟩ : ∃ x, Hid (B.getD k [] = x) := ⟨_, rfl⟩
        obtain ⟨BY, HBY⟩ : ∃ X, Hid ((⟨y.toArray⟩ : ByteArray) = X) := ⟨_, rfl⟩
        have HCY : Hid (∀ W, Below R w4 W → W.cell? ⟨bb, ob + k, none⟩ = some (.string BY)) := fun W hW => by
          rw [← HBY.out, ← HY.out]
          exact PS.str (HPB.out W (HBW.out W hW)) k (by rw [HM.out]; exact hkm)
        have HD2 : Hid (∀ W : World, (Instr.buildSlice 23 1 #[(0, .agg #[.int .i64 2, .string BY])]).run Tryz.prog W = .ok (.slice (some ⟨W.heap.size, 0, none⟩) 1 1) (W.alloc (.cells #[.int .i64 2, .string BY] 43))) := fun W => run_build26 2 (.string BY) ⟨_, rfl⟩ W
        have HD0 : Hid (∀ W : World, (Instr.buildSlice 23 1 #[(0, .agg #[.int .i64 0, .string BX])]).run Tryz.prog W = .ok (.slice (some ⟨W.heap.size, 0, none⟩) 1 1) (W.alloc (.cells #[.int .i64 0, .string BX] 43))) := fun W => run_build26 0 (.string BX) ⟨_, rfl⟩ W
        have hi1pI : (i : Int) + 1 < (pp : Int) := by have := HPP.out; omega
        have hk1qI : (k : Int) + 1 < (q : Int) := by have := HQQ.out; omega
        have hipI : (i : Int) < (pp : Int) := by have := HPP.out; omega
        have hkqI : (k : Int) < (q : Int) := by have := HQQ.out; omega
        obtain ⟨xi, HXI⟩ : ∃ z, Hid (X.getD i 0 = z) := ⟨_, rfl⟩
        obtain ⟨yk, HYK⟩ : ∃ z, Hid (Y.getD k 0 = z) := ⟨_, rfl⟩
        have HXY : Hid (xi = yk ↔ x = y) := hid (by
          have h1 : xi = (f2 x).getD 0 := by
            rw [← HXI.out, HXM.out, ← HX.out, List.getD_eq_getElem?_getD, List.getElem?_map, List.getD_eq_getElem?_getD, List.getElem?_eq_getElem (by rw [HN.out]; exact hin)]; rfl
          have h2 : yk = (f2 y).getD 0 := by
            rw [← HYK.out, HYM.out, ← HY.out, List.getD_eq_getElem?_getD, List.getElem?_map, List.getD_eq_getElem?_getD, List.getElem?_eq_getElem (by rw [HM.out]; exact hkm)]; rfl
          rw [h1, h2]
          exact ⟨HINJ.out x (by rw [← HX.out]; exact getD_mem A i _ (by rw [HN.out]; exact hin)) y (by rw [← HY.out]; exact getD_mem B k _ (by rw [HM.out]; exact hkm)), fun e => by rw [e]⟩)
        have HQ1 : Hid (QA (g + 1) i I k xi yk wr.drew) := hid ⟨by rw [← HXI.out]; have h9 := PI.cell (HXW.out _ HBEd.out.below) i (by rw [HXL.out]; exact hin); rw [Nat.zero_add] at h9; exact h9, by rw [← HYK.out]; have h9 := PI.cell (HYW.out _ HBEd.out.below) k (by rw [HYL.out]; exact hkm); rw [Nat.zero_add] at h9; exact h9⟩
        by_cases hxy : x = y
        · have hxi := HXY.out.2 hxy
          subst hxi
          have hxe : (xi == xi) = true := by simp
          go_wp2_with fail
          refine wp_region_held_drew (S := QA (g + 1) i I k xi xi) (by kernel_rfl) HQ1.out (fun hHeld => ?_)
          generalize wr.drew = wd at hHeld HBEd ⊢
          refine takeL (i := 0) (v := ?_) rfl (by kernel_rfl) (by kernel_rfl) (by kernel_rfl) (fun _ _ _ h => h) (Or.inl ⟨by rfl, ?_⟩) hHeld ?_
          rotate_left
          · rintro w' ⟨s0, s1⟩; go_simp; try simp only [hwi, hwk, hti, htk, h0i, h0k, hi1pI, hk1qI, and_self, if_true]
            rfl
          try simp only [Act.put, List.setIfInBounds_toArray, List.set_cons_zero, List.set_cons_succ]
          refine takeL (i := 1) (v := ?_) rfl (by kernel_rfl) (by kernel_rfl) (by kernel_rfl) (fun _ _ _ h => h) (Or.inl ⟨by rfl, ?_⟩) hHeld ?_
          rotate_left
          · rintro w' ⟨s0, s1⟩; go_simp; try simp only [hwi, hwk, hti, htk, h0i, h0k, hi1pI, hk1qI, and_self, if_true]
            rfl
          try simp only [Act.put, List.setIfInBounds_toArray, List.set_cons_zero, List.set_cons_succ]
          refine takeL (i := 2) (v := ?_) rfl (by kernel_rfl) (by kernel_rfl) (by kernel_rfl) (fun _ _ _ h => h) (Or.inl ⟨by rfl, ?_⟩) hHeld ?_
          rotate_left
          · rintro w' ⟨s0, s1⟩; go_simp; try simp only [hwi, hwk, hti, htk, h0i, h0k, hi1pI, hk1qI, and_self, if_true]
            rfl
          try simp only [Act.put, List.setIfInBounds_toArray, List.set_cons_zero, List.set_cons_succ]
          refine takeL (i := 3) (v := .bool true) rfl (by kernel_rfl) (by kernel_rfl) (by kernel_rfl) (fun _ _ _ h => h) (Or.inl ⟨by rfl, ?_⟩) hHeld ?_
          · rintro w' ⟨s0, s1⟩; go_simp; try rfl
          try simp only [Act.put, List.setIfInBounds_toArray, List.set_cons_zero, List.set_cons_succ]
          refine takeL (i := 4) (v := .bool true) rfl (by kernel_rfl) (by kernel_rfl) (by kernel_rfl) (fun _ _ _ h => h) (Or.inl ⟨by rfl, ?_⟩) hHeld ?_
          · rintro w' ⟨s0, s1⟩; go_simp; try rfl
          try simp only [Act.put, List.setIfInBounds_toArray, List.set_cons_zero, List.set_cons_succ]
          refine takeL (i := 5) (v := ?_) rfl (by kernel_rfl) (by kernel_rfl) (by kernel_rfl) (fun _ _ _ h => h) (Or.inl ⟨by kernel_rfl, ?_⟩) hHeld ?_
          rotate_left
          · rintro w' ⟨s0, s1⟩; go_simp; try simp only [hwi, hwk, hti, htk, h0i, h0k, hi1pI, hk1qI, and_self, if_true]
            rfl
          try simp only [Act.put, List.setIfInBounds_toArray, List.set_cons_zero, List.set_cons_succ]
          refine takeL (i := 6) (v := ?_) rfl (by kernel_rfl) (by kernel_rfl) (by kernel_rfl) (fun _ _ _ h => h) (Or.inl ⟨by kernel_rfl, ?_⟩) hHeld ?_
          rotate_left
          · rintro w' ⟨s0, s1⟩; go_simp; try simp only [hwi, hwk, hti, htk, h0i, h0k, hi1pI, hk1qI, and_self, if_true]
            rfl
          try simp only [Act.put, List.setIfInBounds_toArray, List.set_cons_zero, List.set_cons_succ]
          refine takeL (i := 7) (v := ?_) rfl (by kernel_rfl) (by kernel_rfl) (by kernel_rfl) (fun _ _ _ h => h) (Or.inl ⟨by kernel_rfl, ?_⟩) hHeld ?_
          rotate_left
          · rintro w' ⟨s0, s1⟩; go_simp; try simp only [hwi, hwk, hti, htk, h0i, h0k, hi1pI, hk1qI, and_self, if_true]
            rfl
          try simp only [Act.put, List.setIfInBounds_toArray, List.set_cons_zero, List.set_cons_succ]
          refine takeL (i := 8) (v := .bool true) rfl (by kernel_rfl) (by kernel_rfl) (by kernel_rfl) (fun _ _ _ h => h) (Or.inl ⟨by kernel_rfl, ?_⟩) hHeld ?_
          · rintro w' ⟨s0, s1⟩; go_simp; try rfl
          try simp only [Act.put, List.setIfInBounds_toArray, List.set_cons_zero, List.set_cons_succ]
          refine takeL (i := 9) (v := .bool true) rfl (by kernel_rfl) (by kernel_rfl) (by kernel_rfl) (fun _ _ _ h => h) (Or.inl ⟨by rfl, ?_⟩) hHeld ?_
          · rintro w' ⟨s0, s1⟩; go_simp; try rfl
          try simp only [Act.put, List.setIfInBounds_toArray, List.set_cons_zero, List.set_cons_succ]
          refine takeL (i := 10) (v := .bool true) rfl (by kernel_rfl) (by kernel_rfl) (by kernel_rfl) (fun _ _ _ h => h) (Or.inl ⟨by rfl, ?_⟩) hHeld ?_
          · rintro w' ⟨s0, s1⟩; go_simp; try rfl
          try simp only [Act.put, List.setIfInBounds_toArray, List.set_cons_zero, List.set_cons_succ]
          refine takeL (i := 11) (v := ?_) rfl (by kernel_rfl) (by kernel_rfl) (by kernel_rfl) (fun _ _ _ h => h) (Or.inl ⟨by kernel_rfl, ?_⟩) hHeld ?_
          rotate_left
          · rintro w' ⟨s0, s1⟩; go_simp; try simp only [hwi, hwk, hti, htk, h0i, h0k, hi1pI, hk1qI, and_self, if_true]
            rfl
          try simp only [Act.put, List.setIfInBounds_toArray, List.set_cons_zero, List.set_cons_succ]
          refine takeL (i := 12) (v := ?_) rfl (by kernel_rfl) (by kernel_rfl) (by kernel_rfl) (fun _ _ _ h => h) (Or.inl ⟨by kernel_rfl, ?_⟩) hHeld ?_
          rotate_left
          · rintro w' ⟨s0, s1⟩; go_simp; try simp only [hwi, hwk, hti, htk, h0i, h0k, hi1pI, hk1qI, and_self, if_true]
            rfl
          try simp only [Act.put, List.setIfInBounds_toArray, List.set_cons_zero, List.set_cons_succ]
          refine takeL (i := 13) (v := ?_) rfl (by kernel_rfl) (by kernel_rfl) (by kernel_rfl) (fun _ _ _ h => h) (Or.inl ⟨by kernel_rfl, ?_⟩) hHeld ?_
          rotate_left
          · rintro w' ⟨s0, s1⟩; go_simp; try simp only [hwi, hwk, hti, htk, h0i, h0k, hi1pI, hk1qI, and_self, if_true]
            rfl
          try simp only [Act.put, List.setIfInBounds_toArray, List.set_cons_zero, List.set_cons_succ]
          refine takeL (i := 14) (v := ?_) rfl (by kernel_rfl) (by kernel_rfl) (by kernel_rfl) (fun _ _ _ h => h) (Or.inl ⟨by kernel_rfl, ?_⟩) hHeld ?_
          rotate_left
          · rintro w' ⟨s0, s1⟩; go_simp; try simp only [hwi, hwk, hti, htk, h0i, h0k, hi1pI, hk1qI, and_self, if_true]
            rfl
          try simp only [Act.put, List.setIfInBounds_toArray, List.set_cons_zero, List.set_cons_succ]
          refine takeL (i := 15) (v := ?_) rfl (by kernel_rfl) (by kernel_rfl) (by kernel_rfl) (fun _ _ _ h => h) (Or.inl ⟨by kernel_rfl, ?_⟩) hHeld ?_
          rotate_left
          · rintro w' ⟨s0, s1⟩; go_simp; try simp only [hwi, hwk, hti, htk, h0i, h0k, hi1pI, hk1qI, and_self, if_true]
            rfl
          try simp only [Act.put, List.setIfInBounds_toArray, List.set_cons_zero, List.set_cons_succ]
          refine takeL (i := 16) (v := ?_) rfl (by kernel_rfl) (by kernel_rfl) (by kernel_rfl) (fun _ _ _ h => h) (Or.inl ⟨by kernel_rfl, ?_⟩) hHeld ?_
          rotate_left
          · rintro w' ⟨s0, s1⟩; go_simp; try simp only [hwi, hwk, hti, htk, h0i, h0k, hi1pI, hk1qI, and_self, if_true]
            rfl
          try simp only [Act.put, List.setIfInBounds_toArray, List.set_cons_zero, List.set_cons_succ]
          refine takeL (i := 17) (v := ?_) rfl (by kernel_rfl) (by kernel_rfl) (by kernel_rfl) (fun _ _ _ h => h) (Or.inl ⟨by kernel_rfl, ?_⟩) hHeld ?_
          rotate_left
          · rintro w' ⟨s0, s1⟩; go_simp; try simp only [hwi, hwk, hti, htk, h0i, h0k, hi1pI, hk1qI, and_self, if_true]
            rfl
          try simp only [Act.put, List.setIfInBounds_toArray, List.set_cons_zero, List.set_cons_succ]
          refine takeL (i := 18) (v := ?_) rfl (by kernel_rfl) (by kernel_rfl) (by kernel_rfl) (fun _ _ _ h => h) (Or.inl ⟨by kernel_rfl, ?_⟩) hHeld ?_
          rotate_left
          · rintro w' ⟨s0, s1⟩; go_simp; try simp only [hwi, hwk, hti, htk, h0i, h0k, hi1pI, hk1qI, and_self, if_true]
            rfl
          try simp only [Act.put, List.setIfInBounds_toArray, List.set_cons_zero, List.set_cons_succ]
          refine takeL (i := 19) (v := .bool true) rfl (by kernel_rfl) (by kernel_rfl) (by kernel_rfl) (fun _ _ _ h => h) (Or.inl ⟨by kernel_rfl, ?_⟩) hHeld ?_
          · rintro w' ⟨s0, s1⟩; go_simp; try rfl
          try simp only [Act.put, List.setIfInBounds_toArray, List.set_cons_zero, List.set_cons_succ]
          refine takeL (i := 20) (v := .bool true) rfl (by kernel_rfl) (by kernel_rfl) (by kernel_rfl) (fun _ _ _ h => h) (Or.inl ⟨by rfl, ?_⟩) hHeld ?_
          · rintro w' ⟨s0, s1⟩; go_simp; try rfl
          try simp only [Act.put, List.setIfInBounds_toArray, List.set_cons_zero, List.set_cons_succ]
          refine takeL (i := 21) (v := .bool true) rfl (by kernel_rfl) (by kernel_rfl) (by kernel_rfl) (fun _ _ _ h => h) (Or.inl ⟨by rfl, ?_⟩) hHeld ?_
          · rintro w' ⟨s0, s1⟩; go_simp; try rfl
          try simp only [Act.put, List.setIfInBounds_toArray, List.set_cons_zero, List.set_cons_succ]
          refine wpAnyH_done (by kernel_rfl) ?_ _
          clear hHeld
          have hcc := HCX.out wd HBEd.out.below
          have HED2 : Hid ((L ++ [(0, x)]) ++ ed (A.drop (i + 1)) (B.drop (k + 1)) = E) := hid (by
            have h9 := HED.out
            rw [ed_next_keep A B i k (by rw [HN.out]; exact hin) (by rw [HM.out]; exact hkm) (by rw [HX.out, HY.out]; exact hxy), HX.out] at h9
            rw [List.append_assoc]
            exact h9)
          go_wp2_with (first
            | refine wpList_bS rfl 23 1 _ rfl (.agg #[.int .i64 0, .string BX]) _ rfl (HD0.out _) ?_
            | (refine app_edK und26 Tryz.info43 HBEd.out hLl hl4 0 x 0 rfl BX HBX.out rfl _ _ rfl rfl rfl ?_; intro a' c' w' HB')
            | fail)
          go_roundg ((n - (i + 1)) + (m - (k + 1)))
          case measure => omega
          case rel => exact ⟨i + 1, k + 1, l + 1, L ++ [(0, x)], a', c', rfl, by go_num, by go_num, by simp [hLl], by omega, by omega, rfl, HB', HED2⟩
        · have hxi : ¬ xi = yk := fun e => hxy (HXY.out.1 e)
          have hxe : (xi == yk) = false := by simpa using hxi
          obtain ⟨v, HV⟩ : ∃ v, Hid (t (i + 1) k = v) := ⟨_, rfl⟩
          obtain ⟨u, HU⟩ : ∃ v, Hid (t i (k + 1) = v) := ⟨_, rfl⟩
          have HV2 : Hid (lcs (A.drop (i + 1)) (B.drop k) = v) := hid (by rw [← HV.out, HLT.out _ _ (by omega) (by omega)])
          have HU2 : Hid (lcs (A.drop i) (B.drop (k + 1)) = u) := hid (by rw [← HU.out, HLT.out _ _ (by omega) (by omega)])
          go_wp2_with fail
          refine wp_region_held_drew (S := QA (g + 1) i I k xi yk) (by kernel_rfl) HQ1.out (fun hHeld => ?_)
          generalize wr.drew = wd at hHeld HBEd ⊢
          refine takeL (i := 0) (v := ?_) rfl (by kernel_rfl) (by kernel_rfl) (by kernel_rfl) (fun _ _ _ h => h) (Or.inl ⟨by rfl, ?_⟩) hHeld ?_
          rotate_left
          · rintro w' ⟨s0, s1⟩; go_simp; try simp only [hwi, hwk, hti, htk, h0i, h0k, hi1pI, hk1qI, and_self, if_true]
            rfl
          try simp only [Act.put, List.setIfInBounds_toArray, List.set_cons_zero, List.set_cons_succ]
          refine takeL (i := 1) (v := ?_) rfl (by kernel_rfl) (by kernel_rfl) (by kernel_rfl) (fun _ _ _ h => h) (Or.inl ⟨by rfl, ?_⟩) hHeld ?_
          rotate_left
          · rintro w' ⟨s0, s1⟩; go_simp; try simp only [hwi, hwk, hti, htk, h0i, h0k, hi1pI, hk1qI, and_self, if_true]
            rfl
          try simp only [Act.put, List.setIfInBounds_toArray, List.set_cons_zero, List.set_cons_succ]
          refine takeL (i := 2) (v := ?_) rfl (by kernel_rfl) (by kernel_rfl) (by kernel_rfl) (fun _ _ _ h => h) (Or.inl ⟨by rfl, ?_⟩) hHeld ?_
          rotate_left
          · rintro w' ⟨s0, s1⟩; go_simp; try simp only [hwi, hwk, hti, htk, h0i, h0k, hi1pI, hk1qI, and_self, if_true]
            rfl
          try simp only [Act.put, List.setIfInBounds_toArray, List.set_cons_zero, List.set_cons_succ]
          refine takeL (i := 3) (v := .bool true) rfl (by kernel_rfl) (by kernel_rfl) (by kernel_rfl) (fun _ _ _ h => h) (Or.inl ⟨by rfl, ?_⟩) hHeld ?_
          · rintro w' ⟨s0, s1⟩; go_simp; try rfl
          try simp only [Act.put, List.setIfInBounds_toArray, List.set_cons_zero, List.set_cons_succ]
          refine takeL (i := 4) (v := .bool true) rfl (by kernel_rfl) (by kernel_rfl) (by kernel_rfl) (fun _ _ _ h => h) (Or.inl ⟨by rfl, ?_⟩) hHeld ?_
          · rintro w' ⟨s0, s1⟩; go_simp; try rfl
          try simp only [Act.put, List.setIfInBounds_toArray, List.set_cons_zero, List.set_cons_succ]
          refine takeL (i := 5) (v := ?_) rfl (by kernel_rfl) (by kernel_rfl) (by kernel_rfl) (fun _ _ _ h => h) (Or.inl ⟨by kernel_rfl, ?_⟩) hHeld ?_
          rotate_left
          · rintro w' ⟨s0, s1⟩; go_simp; try simp only [hwi, hwk, hti, htk, h0i, h0k, hi1pI, hk1qI, and_self, if_true]
            rfl
          try simp only [Act.put, List.setIfInBounds_toArray, List.set_cons_zero, List.set_cons_succ]
          refine takeL (i := 6) (v := ?_) rfl (by kernel_rfl) (by kernel_rfl) (by kernel_rfl) (fun _ _ _ h => h) (Or.inl ⟨by kernel_rfl, ?_⟩) hHeld ?_
          rotate_left
          · rintro w' ⟨s0, s1⟩; go_simp; try simp only [hwi, hwk, hti, htk, h0i, h0k, hi1pI, hk1qI, and_self, if_true]
            rfl
          try simp only [Act.put, List.setIfInBounds_toArray, List.set_cons_zero, List.set_cons_succ]
          refine takeL (i := 7) (v := ?_) rfl (by kernel_rfl) (by kernel_rfl) (by kernel_rfl) (fun _ _ _ h => h) (Or.inl ⟨by kernel_rfl, ?_⟩) hHeld ?_
          rotate_left
          · rintro w' ⟨s0, s1⟩; go_simp; try simp only [hwi, hwk, hti, htk, h0i, h0k, hi1pI, hk1qI, and_self, if_true]
            rfl
          try simp only [Act.put, List.setIfInBounds_toArray, List.set_cons_zero, List.set_cons_succ]
          refine takeL (i := 8) (v := .bool true) rfl (by kernel_rfl) (by kernel_rfl) (by kernel_rfl) (fun _ _ _ h => h) (Or.inl ⟨by kernel_rfl, ?_⟩) hHeld ?_
          · rintro w' ⟨s0, s1⟩; go_simp; try rfl
          try simp only [Act.put, List.setIfInBounds_toArray, List.set_cons_zero, List.set_cons_succ]
          refine takeL (i := 9) (v := .bool true) rfl (by kernel_rfl) (by kernel_rfl) (by kernel_rfl) (fun _ _ _ h => h) (Or.inl ⟨by rfl, ?_⟩) hHeld ?_
          · rintro w' ⟨s0, s1⟩; go_simp; try rfl
          try simp only [Act.put, List.setIfInBounds_toArray, List.set_cons_zero, List.set_cons_succ]
          refine takeL (i := 10) (v := .bool true) rfl (by kernel_rfl) (by kernel_rfl) (by kernel_rfl) (fun _ _ _ h => h) (Or.inl ⟨by rfl, ?_⟩) hHeld ?_
          · rintro w' ⟨s0, s1⟩; go_simp; try rfl
          try simp only [Act.put, List.setIfInBounds_toArray, List.set_cons_zero, List.set_cons_succ]
          refine takeL (i := 11) (v := ?_) rfl (by kernel_rfl) (by kernel_rfl) (by kernel_rfl) (fun _ _ _ h => h) (Or.inl ⟨by kernel_rfl, ?_⟩) hHeld ?_
          rotate_left
          · rintro w' ⟨s0, s1⟩; go_simp; try simp only [hwi, hwk, hti, htk, h0i, h0k, hi1pI, hk1qI, and_self, if_true]
            rfl
          try simp only [Act.put, List.setIfInBounds_toArray, List.set_cons_zero, List.set_cons_succ]
          refine takeL (i := 12) (v := ?_) rfl (by kernel_rfl) (by kernel_rfl) (by kernel_rfl) (fun _ _ _ h => h) (Or.inl ⟨by kernel_rfl, ?_⟩) hHeld ?_
          rotate_left
          · rintro w' ⟨s0, s1⟩; go_simp; try simp only [hwi, hwk, hti, htk, h0i, h0k, hi1pI, hk1qI, and_self, if_true]
            rfl
          try simp only [Act.put, List.setIfInBounds_toArray, List.set_cons_zero, List.set_cons_succ]
          refine takeL (i := 13) (v := ?_) rfl (by kernel_rfl) (by kernel_rfl) (by kernel_rfl) (fun _ _ _ h => h) (Or.inl ⟨by kernel_rfl, ?_⟩) hHeld ?_
          rotate_left
          · rintro w' ⟨s0, s1⟩; go_simp; try simp only [hwi, hwk, hti, htk, h0i, h0k, hi1pI, hk1qI, and_self, if_true]
            rfl
          try simp only [Act.put, List.setIfInBounds_toArray, List.set_cons_zero, List.set_cons_succ]
          refine takeL (i := 14) (v := ?_) rfl (by kernel_rfl) (by kernel_rfl) (by kernel_rfl) (fun _ _ _ h => h) (Or.inl ⟨by kernel_rfl, ?_⟩) hHeld ?_
          rotate_left
          · rintro w' ⟨s0, s1⟩; go_simp; try simp only [hwi, hwk, hti, htk, h0i, h0k, hi1pI, hk1qI, and_self, if_true]
            rfl
          try simp only [Act.put, List.setIfInBounds_toArray, List.set_cons_zero, List.set_cons_succ]
          refine takeL (i := 15) (v := ?_) rfl (by kernel_rfl) (by kernel_rfl) (by kernel_rfl) (fun _ _ _ h => h) (Or.inl ⟨by kernel_rfl, ?_⟩) hHeld ?_
          rotate_left
          · rintro w' ⟨s0, s1⟩; go_simp; try simp only [hwi, hwk, hti, htk, h0i, h0k, hi1pI, hk1qI, and_self, if_true]
            rfl
          try simp only [Act.put, List.setIfInBounds_toArray, List.set_cons_zero, List.set_cons_succ]
          refine takeL (i := 16) (v := ?_) rfl (by kernel_rfl) (by kernel_rfl) (by kernel_rfl) (fun _ _ _ h => h) (Or.inl ⟨by kernel_rfl, ?_⟩) hHeld ?_
          rotate_left
          · rintro w' ⟨s0, s1⟩; go_simp; try simp only [hwi, hwk, hti, htk, h0i, h0k, hi1pI, hk1qI, and_self, if_true]
            rfl
          try simp only [Act.put, List.setIfInBounds_toArray, List.set_cons_zero, List.set_cons_succ]
          refine takeL (i := 17) (v := ?_) rfl (by kernel_rfl) (by kernel_rfl) (by kernel_rfl) (fun _ _ _ h => h) (Or.inl ⟨by kernel_rfl, ?_⟩) hHeld ?_
          rotate_left
          · rintro w' ⟨s0, s1⟩; go_simp; try simp only [hwi, hwk, hti, htk, h0i, h0k, hi1pI, hk1qI, and_self, if_true]
            rfl
          try simp only [Act.put, List.setIfInBounds_toArray, List.set_cons_zero, List.set_cons_succ]
          refine takeL (i := 18) (v := ?_) rfl (by kernel_rfl) (by kernel_rfl) (by kernel_rfl) (fun _ _ _ h => h) (Or.inl ⟨by kernel_rfl, ?_⟩) hHeld ?_
          rotate_left
          · rintro w' ⟨s0, s1⟩; go_simp; try simp only [hwi, hwk, hti, htk, h0i, h0k, hi1pI, hk1qI, and_self, if_true]
            rfl
          try simp only [Act.put, List.setIfInBounds_toArray, List.set_cons_zero, List.set_cons_succ]
          refine takeL (i := 19) (v := .bool false) rfl (by kernel_rfl) (by kernel_rfl) (by kernel_rfl) (fun _ _ _ h => h) (Or.inl ⟨by kernel_rfl, ?_⟩) hHeld ?_
          · rintro w' ⟨s0, s1⟩; go_simp; try rfl
          try simp only [Act.put, List.setIfInBounds_toArray, List.set_cons_zero, List.set_cons_succ]
          refine takeL (i := 20) (v := .bool false) rfl (by kernel_rfl) (by kernel_rfl) (by kernel_rfl) (fun _ _ _ h => h) (Or.inl ⟨by rfl, ?_⟩) hHeld ?_
          · rintro w' ⟨s0, s1⟩; go_simp; try rfl
          try simp only [Act.put, List.setIfInBounds_toArray, List.set_cons_zero, List.set_cons_succ]
          refine takeL (i := 21) (v := .bool false) rfl (by kernel_rfl) (by kernel_rfl) (by kernel_rfl) (fun _ _ _ h => h) (Or.inl ⟨by rfl, ?_⟩) hHeld ?_
          · rintro w' ⟨s0, s1⟩; go_simp; try rfl
          try simp only [Act.put, List.setIfInBounds_toArray, List.set_cons_zero, List.set_cons_succ]
          refine wpAnyH_done (by kernel_rfl) ?_ _
          clear hHeld HQ1
          have hbd : Below wd.heap.size wd wd.drew := ⟨rfl, rfl, rfl, Nat.le_refl _, fun _ _ => rfl⟩
          have HBE2 : Hid (BE 43 w4 wd.drew R (.slice la l lc) L) := hid (HBEd.out.carry hbd)
          have hTB := HTW.out _ HBE2.out.below
          have HQ2 : Hid (QC T i k q v u wd.drew) := hid ⟨hTB.outer i (by have := HPP.out; omega), hTB.outer (i + 1) (by have := HPP.out; omega), by rw [← HV.out]; exact (hTB.rows (i + 1) k (by have := HPP.out; omega) (by have := HQQ.out; omega)).1, by rw [← HU.out]; exact (hTB.rows i (k + 1) (by have := HPP.out; omega) (by have := HQQ.out; omega)).1⟩
          clear hbd hTB
          by_cases huv : u ≤ v
          · have huvI : (u : Int) ≤ (v : Int) := by omega
            go_wp2_with fail
            refine wp_region_held_drew (S := QC T i k q v u) (by kernel_rfl) HQ2.out (fun hHeld => ?_)
            generalize wd.drew = we at hHeld HBE2 ⊢
            refine takeL (i := 0) (v := ?_) rfl (by kernel_rfl) (by kernel_rfl) (by kernel_rfl) (fun _ _ _ h => h) (Or.inl ⟨by rfl, ?_⟩) hHeld ?_
            rotate_left
            · rintro w' ⟨s0, s1, s2, s3⟩; go_simp; try simp only [hwi, hwk, hti, htk, h0i, h0k, hi1pI, hk1qI, and_self, if_true]
              rfl
            try simp only [Act.put, List.setIfInBounds_toArray, List.set_cons_zero, List.set_cons_succ]
            refine takeL (i := 1) (v := ?_) rfl (by kernel_rfl) (by kernel_rfl) (by kernel_rfl) (fun _ _ _ h => h) (Or.inl ⟨by rfl, ?_⟩) hHeld ?_
            rotate_left
            · rintro w' ⟨s0, s1, s2, s3⟩; go_simp; try simp only [hwi, hwk, hti, htk, h0i, h0k, hi1pI, hk1qI, and_self, if_true]
              rfl
            try simp only [Act.put, List.setIfInBounds_toArray, List.set_cons_zero, List.set_cons_succ]
            refine takeL (i := 2) (v := ?_) rfl (by kernel_rfl) (by kernel_rfl) (by kernel_rfl) (fun _ _ _ h => h) (Or.inl ⟨by rfl, ?_⟩) hHeld ?_
            rotate_left
            · rintro w' ⟨s0, s1, s2, s3⟩; go_simp; try simp only [hwi, hwk, hti, htk, h0i, h0k, hi1pI, hk1qI, and_self, if_true]
              rfl
            try simp only [Act.put, List.setIfInBounds_toArray, List.set_cons_zero, List.set_cons_succ]
            refine takeL (i := 3) (v := .bool false) rfl (by kernel_rfl) (by kernel_rfl) (by kernel_rfl) (fun _ _ _ h => h) (Or.inl ⟨by rfl, ?_⟩) hHeld ?_
            · rintro w' ⟨s0, s1, s2, s3⟩; go_simp; try rfl
            try simp only [Act.put, List.setIfInBounds_toArray, List.set_cons_zero, List.set_cons_succ]
            refine takeL (i := 4) (v := .bool false) rfl (by kernel_rfl) (by kernel_rfl) (by kernel_rfl) (fun _ _ _ h => h) (Or.inl ⟨by rfl, ?_⟩) hHeld ?_
            · rintro w' ⟨s0, s1, s2, s3⟩; go_simp; try rfl
            try simp only [Act.put, List.setIfInBounds_toArray, List.set_cons_zero, List.set_cons_succ]
            refine takeL (i := 5) (v := ?_) rfl (by kernel_rfl) (by kernel_rfl) (by kernel_rfl) (fun _ _ _ h => h) (Or.inl ⟨by kernel_rfl, ?_⟩) hHeld ?_
            rotate_left
            · rintro w' ⟨s0, s1, s2, s3⟩; go_simp; try simp only [hwi, hwk, hti, htk, h0i, h0k, hi1pI, hk1qI, and_self, if_true]
              rfl
            try simp only [Act.put, List.setIfInBounds_toArray, List.set_cons_zero, List.set_cons_succ]
            refine takeL (i := 6) (v := ?_) rfl (by kernel_rfl) (by kernel_rfl) (by kernel_rfl) (fun _ _ _ h => h) (Or.inl ⟨by kernel_rfl, ?_⟩) hHeld ?_
            rotate_left
            · rintro w' ⟨s0, s1, s2, s3⟩; go_simp; try simp only [hwi, hwk, hti, htk, h0i, h0k, hi1pI, hk1qI, and_self, if_true]
              rfl
            try simp only [Act.put, List.setIfInBounds_toArray, List.set_cons_zero, List.set_cons_succ]
            refine takeL (i := 7) (v := ?_) rfl (by kernel_rfl) (by kernel_rfl) (by kernel_rfl) (fun _ _ _ h => h) (Or.inl ⟨by kernel_rfl, ?_⟩) hHeld ?_
            rotate_left
            · rintro w' ⟨s0, s1, s2, s3⟩; go_simp; try simp only [hwi, hwk, hti, htk, h0i, h0k, hi1pI, hk1qI, and_self, if_true]
              rfl
            try simp only [Act.put, List.setIfInBounds_toArray, List.set_cons_zero, List.set_cons_succ]
            refine takeL (i := 8) (v := .bool true) rfl (by kernel_rfl) (by kernel_rfl) (by kernel_rfl) (fun _ _ _ h => h) (Or.inl ⟨by kernel_rfl, ?_⟩) hHeld ?_
            · rintro w' ⟨s0, s1, s2, s3⟩; go_simp; try rfl
            try simp only [Act.put, List.setIfInBounds_toArray, List.set_cons_zero, List.set_cons_succ]
            refine takeL (i := 9) (v := .bool true) rfl (by kernel_rfl) (by kernel_rfl) (by kernel_rfl) (fun _ _ _ h => h) (Or.inl ⟨by kernel_rfl, ?_⟩) hHeld ?_
            · rintro w' ⟨s0, s1, s2, s3⟩; go_simp; try rfl
            try simp only [Act.put, List.setIfInBounds_toArray, List.set_cons_zero, List.set_cons_succ]
            refine takeL (i := 10) (v := ?_) rfl (by kernel_rfl) (by kernel_rfl) (by kernel_rfl) (fun _ _ _ h => h) (Or.inl ⟨by kernel_rfl, ?_⟩) hHeld ?_
            rotate_left
            · rintro w' ⟨s0, s1, s2, s3⟩; go_simp; try simp only [hwi, hwk, hti, htk, h0i, h0k, hi1pI, hk1qI, and_self, if_true]
              rfl
            try simp only [Act.put, List.setIfInBounds_toArray, List.set_cons_zero, List.set_cons_succ]
            refine takeL (i := 11) (v := ?_) rfl (by kernel_rfl) (by kernel_rfl) (by kernel_rfl) (fun _ _ _ h => h) (Or.inl ⟨by kernel_rfl, ?_⟩) hHeld ?_
            rotate_left
            · rintro w' ⟨s0, s1, s2, s3⟩; go_simp; try simp only [hwi, hwk, hti, htk, h0i, h0k, hi1pI, hk1qI, and_self, if_true]
              rfl
            try simp only [Act.put, List.setIfInBounds_toArray, List.set_cons_zero, List.set_cons_succ]
            refine takeL (i := 12) (v := ?_) rfl (by kernel_rfl) (by kernel_rfl) (by kernel_rfl) (fun _ _ _ h => h) (Or.inl ⟨by kernel_rfl, ?_⟩) hHeld ?_
            rotate_left
            · rintro w' ⟨s0, s1, s2, s3⟩; go_simp; try simp only [hwi, hwk, hti, htk, h0i, h0k, hi1pI, hk1qI, and_self, if_true]
              rfl
            try simp only [Act.put, List.setIfInBounds_toArray, List.set_cons_zero, List.set_cons_succ]
            refine takeL (i := 13) (v := ?_) rfl (by kernel_rfl) (by kernel_rfl) (by kernel_rfl) (fun _ _ _ h => h) (Or.inl ⟨by kernel_rfl, ?_⟩) hHeld ?_
            rotate_left
            · rintro w' ⟨s0, s1, s2, s3⟩; go_simp; try simp only [hwi, hwk, hti, htk, h0i, h0k, hi1pI, hk1qI, and_self, if_true]
              rfl
            try simp only [Act.put, List.setIfInBounds_toArray, List.set_cons_zero, List.set_cons_succ]
            refine takeL (i := 14) (v := ?_) rfl (by kernel_rfl) (by kernel_rfl) (by kernel_rfl) (fun _ _ _ h => h) (Or.inl ⟨by kernel_rfl, ?_⟩) hHeld ?_
            rotate_left
            · rintro w' ⟨s0, s1, s2, s3⟩; go_simp; try simp only [hwi, hwk, hti, htk, h0i, h0k, hi1pI, hk1qI, and_self, if_true]
              rfl
            try simp only [Act.put, List.setIfInBounds_toArray, List.set_cons_zero, List.set_cons_succ]
            refine takeL (i := 15) (v := ?_) rfl (by kernel_rfl) (by kernel_rfl) (by kernel_rfl) (fun _ _ _ h => h) (Or.inl ⟨by kernel_rfl, ?_⟩) hHeld ?_
            rotate_left
            · rintro w' ⟨s0, s1, s2, s3⟩; go_simp; try simp only [hwi, hwk, hti, htk, h0i, h0k, hi1pI, hk1qI, and_self, if_true]
              rfl
            try simp only [Act.put, List.setIfInBounds_toArray, List.set_cons_zero, List.set_cons_succ]
            refine takeL (i := 16) (v := ?_) rfl (by kernel_rfl) (by kernel_rfl) (by kernel_rfl) (fun _ _ _ h => h) (Or.inl ⟨by kernel_rfl, ?_⟩) hHeld ?_
            rotate_left
            · rintro w' ⟨s0, s1, s2, s3⟩; go_simp; try simp only [hwi, hwk, hti, htk, h0i, h0k, hi1pI, hk1qI, and_self, if_true]
              rfl
            try simp only [Act.put, List.setIfInBounds_toArray, List.set_cons_zero, List.set_cons_succ]
            refine takeL (i := 17) (v := ?_) rfl (by kernel_rfl) (by kernel_rfl) (by kernel_rfl) (fun _ _ _ h => h) (Or.inl ⟨by kernel_rfl, ?_⟩) hHeld ?_
            rotate_left
            · rintro w' ⟨s0, s1, s2, s3⟩; go_simp; try simp only [hwi, hwk, hti, htk, h0i, h0k, hi1pI, hk1qI, and_self, if_true]
              rfl
            try simp only [Act.put, List.setIfInBounds_toArray, List.set_cons_zero, List.set_cons_succ]
            refine takeL (i := 18) (v := ?_) rfl (by kernel_rfl) (by kernel_rfl) (by kernel_rfl) (fun _ _ _ h => h) (Or.inl ⟨by kernel_rfl, ?_⟩) hHeld ?_
            rotate_left
            · rintro w' ⟨s0, s1, s2, s3⟩; go_simp; try simp only [hwi, hwk, hti, htk, h0i, h0k, hi1pI, hk1qI, and_self, if_true]
              rfl
            try simp only [Act.put, List.setIfInBounds_toArray, List.set_cons_zero, List.set_cons_succ]
            refine takeL (i := 19) (v := ?_) rfl (by kernel_rfl) (by kernel_rfl) (by kernel_rfl) (fun _ _ _ h => h) (Or.inl ⟨by kernel_rfl, ?_⟩) hHeld ?_
            rotate_left
            · rintro w' ⟨s0, s1, s2, s3⟩; go_simp; try simp only [hwi, hwk, hti, htk, h0i, h0k, hi1pI, hk1qI, and_self, if_true]
              rfl
            try simp only [Act.put, List.setIfInBounds_toArray, List.set_cons_zero, List.set_cons_succ]
            refine takeL (i := 20) (v := ?_) rfl (by kernel_rfl) (by kernel_rfl) (by kernel_rfl) (fun _ _ _ h => h) (Or.inl ⟨by kernel_rfl, ?_⟩) hHeld ?_
            rotate_left
            · rintro w' ⟨s0, s1, s2, s3⟩; go_simp; try simp only [hwi, hwk, hti, htk, h0i, h0k, hi1pI, hk1qI, and_self, if_true]
              rfl
            try simp only [Act.put, List.setIfInBounds_toArray, List.set_cons_zero, List.set_cons_succ]
            refine takeL (i := 21) (v := ?_) rfl (by kernel_rfl) (by kernel_rfl) (by kernel_rfl) (fun _ _ _ h => h) (Or.inl ⟨by kernel_rfl, ?_⟩) hHeld ?_
            rotate_left
            · rintro w' ⟨s0, s1, s2, s3⟩; go_simp; try simp only [hwi, hwk, hti, htk, h0i, h0k, hi1pI, hk1qI, and_self, if_true]
              rfl
            try simp only [Act.put, List.setIfInBounds_toArray, List.set_cons_zero, List.set_cons_succ]
            refine takeL (i := 22) (v := ?_) rfl (by kernel_rfl) (by kernel_rfl) (by kernel_rfl) (fun _ _ _ h => h) (Or.inl ⟨by kernel_rfl, ?_⟩) hHeld ?_
            rotate_left
            · rintro w' ⟨s0, s1, s2, s3⟩; go_simp; try simp only [hwi, hwk, hti, htk, h0i, h0k, hi1pI, hk1qI, and_self, if_true]
              rfl
            try simp only [Act.put, List.setIfInBounds_toArray, List.set_cons_zero, List.set_cons_succ]
            refine takeL (i := 23) (v := ?_) rfl (by kernel_rfl) (by kernel_rfl) (by kernel_rfl) (fun _ _ _ h => h) (Or.inl ⟨by kernel_rfl, ?_⟩) hHeld ?_
            rotate_left
            · rintro w' ⟨s0, s1, s2, s3⟩; go_simp; try simp only [hwi, hwk, hti, htk, h0i, h0k, hi1pI, hk1qI, and_self, if_true]
              rfl
            try simp only [Act.put, List.setIfInBounds_toArray, List.set_cons_zero, List.set_cons_succ]
            refine takeL (i := 24) (v := ?_) rfl (by kernel_rfl) (by kernel_rfl) (by kernel_rfl) (fun _ _ _ h => h) (Or.inl ⟨by kernel_rfl, ?_⟩) hHeld ?_
            rotate_left
            · rintro w' ⟨s0, s1, s2, s3⟩; go_simp; try simp only [hwi, hwk, hti, htk, h0i, h0k, hi1pI, hk1qI, and_self, if_true]
              rfl
            try simp only [Act.put, List.setIfInBounds_toArray, List.set_cons_zero, List.set_cons_succ]
            refine takeL (i := 25) (v := ?_) rfl (by kernel_rfl) (by kernel_rfl) (by kernel_rfl) (fun _ _ _ h => h) (Or.inl ⟨by kernel_rfl, ?_⟩) hHeld ?_
            rotate_left
            · rintro w' ⟨s0, s1, s2, s3⟩; go_simp; try simp only [hwi, hwk, hti, htk, h0i, h0k, hi1pI, hk1qI, and_self, if_true]
              rfl
            try simp only [Act.put, List.setIfInBounds_toArray, List.set_cons_zero, List.set_cons_succ]
            refine takeL (i := 26) (v := .bool true) rfl (by kernel_rfl) (by kernel_rfl) (by kernel_rfl) (fun _ _ _ h => h) (Or.inl ⟨by kernel_rfl, ?_⟩) hHeld ?_
            · rintro w' ⟨s0, s1, s2, s3⟩; go_simp; try rfl
            try simp only [Act.put, List.setIfInBounds_toArray, List.set_cons_zero, List.set_cons_succ]
            refine takeL (i := 27) (v := .bool true) rfl (by kernel_rfl) (by kernel_rfl) (by kernel_rfl) (fun _ _ _ h => h) (Or.inl ⟨by kernel_rfl, ?_⟩) hHeld ?_
            · rintro w' ⟨s0, s1, s2, s3⟩; go_simp; try rfl
            try simp only [Act.put, List.setIfInBounds_toArray, List.set_cons_zero, List.set_cons_succ]
            refine takeL (i := 28) (v := .bool true) rfl (by kernel_rfl) (by kernel_rfl) (by kernel_rfl) (fun _ _ _ h => h) (Or.inl ⟨by rfl, ?_⟩) hHeld ?_
            · rintro w' ⟨s0, s1, s2, s3⟩; go_simp; try rfl
            try simp only [Act.put, List.setIfInBounds_toArray, List.set_cons_zero, List.set_cons_succ]
            refine takeL (i := 29) (v := .bool true) rfl (by kernel_rfl) (by kernel_rfl) (by kernel_rfl) (fun _ _ _ h => h) (Or.inl ⟨by rfl, ?_⟩) hHeld ?_
            · rintro w' ⟨s0, s1, s2, s3⟩; go_simp; try rfl
            try simp only [Act.put, List.setIfInBounds_toArray, List.set_cons_zero, List.set_cons_succ]
            refine wpAnyH_done (by kernel_rfl) ?_ _
            clear hHeld
            have hcc := HCX.out we HBE2.out.below
            have HED2 : Hid ((L ++ [(1, x)]) ++ ed (A.drop (i + 1)) (B.drop (k)) = E) := hid (by
              have h9 := HED.out
              rw [ed_next_drop A B i k (by rw [HN.out]; exact hin) (by rw [HM.out]; exact hkm) (by rw [HX.out, HY.out]; exact hxy) (by rw [HV2.out, HU2.out]; exact huv), HX.out] at h9
              rw [List.append_assoc]
              exact h9)
            go_wp2_with (first
              | refine wpList_bS rfl 23 1 _ rfl (.agg #[.int .i64 1, .string BX]) _ rfl (HD1.out _) ?_
              | (refine app_edK und26 Tryz.info43 HBE2.out hLl hl4 1 x 1 rfl BX HBX.out rfl _ _ rfl rfl rfl ?_; intro a' c' w' HB')
              | fail)
            go_roundg ((n - (i + 1)) + (m - (k)))
            case measure => omega
            case rel => exact ⟨i + 1, k, l + 1, L ++ [(1, x)], a', c', rfl, by go_num, by go_num, by simp [hLl], by omega, by omega, rfl, HB', HED2⟩
          · have huvI : ¬ (u : Int) ≤ (v : Int) := by omega
            go_wp2_with fail
            refine wp_region_held_drew (S := QC T i k q v u) (by kernel_rfl) HQ2.out (fun hHeld => ?_)
            generalize wd.drew = we at hHeld HBE2 ⊢
            refine takeL (i := 0) (v := ?_) rfl (by kernel_rfl) (by kernel_rfl) (by kernel_rfl) (fun _ _ _ h => h) (Or.inl ⟨by rfl, ?_⟩) hHeld ?_
            rotate_left
            · rintro w' ⟨s0, s1, s2, s3⟩; go_simp; try simp only [hwi, hwk, hti, htk, h0i, h0k, hi1pI, hk1qI, and_self, if_true]
              rfl
            try simp only [Act.put, List.setIfInBounds_toArray, List.set_cons_zero, List.set_cons_succ]
            refine takeL (i := 1) (v := ?_) rfl (by kernel_rfl) (by kernel_rfl) (by kernel_rfl) (fun _ _ _ h => h) (Or.inl ⟨by rfl, ?_⟩) hHeld ?_
            rotate_left
            · rintro w' ⟨s0, s1, s2, s3⟩; go_simp; try simp only [hwi, hwk, hti, htk, h0i, h0k, hi1pI, hk1qI, and_self, if_true]
              rfl
            try simp only [Act.put, List.setIfInBounds_toArray, List.set_cons_zero, List.set_cons_succ]
            refine takeL (i := 2) (v := ?_) rfl (by kernel_rfl) (by kernel_rfl) (by kernel_rfl) (fun _ _ _ h => h) (Or.inl ⟨by rfl, ?_⟩) hHeld ?_
            rotate_left
            · rintro w' ⟨s0, s1, s2, s3⟩; go_simp; try simp only [hwi, hwk, hti, htk, h0i, h0k, hi1pI, hk1qI, and_self, if_true]
              rfl
            try simp only [Act.put, List.setIfInBounds_toArray, List.set_cons_zero, List.set_cons_succ]
            refine takeL (i := 3) (v := .bool false) rfl (by kernel_rfl) (by kernel_rfl) (by kernel_rfl) (fun _ _ _ h => h) (Or.inl ⟨by rfl, ?_⟩) hHeld ?_
            · rintro w' ⟨s0, s1, s2, s3⟩; go_simp; try rfl
            try simp only [Act.put, List.setIfInBounds_toArray, List.set_cons_zero, List.set_cons_succ]
            refine takeL (i := 4) (v := .bool false) rfl (by kernel_rfl) (by kernel_rfl) (by kernel_rfl) (fun _ _ _ h => h) (Or.inl ⟨by rfl, ?_⟩) hHeld ?_
            · rintro w' ⟨s0, s1, s2, s3⟩; go_simp; try rfl
            try simp only [Act.put, List.setIfInBounds_toArray, List.set_cons_zero, List.set_cons_succ]
            refine takeL (i := 5) (v := ?_) rfl (by kernel_rfl) (by kernel_rfl) (by kernel_rfl) (fun _ _ _ h => h) (Or.inl ⟨by kernel_rfl, ?_⟩) hHeld ?_
            rotate_left
            · rintro w' ⟨s0, s1, s2, s3⟩; go_simp; try simp only [hwi, hwk, hti, htk, h0i, h0k, hi1pI, hk1qI, and_self, if_true]
              rfl
            try simp only [Act.put, List.setIfInBounds_toArray, List.set_cons_zero, List.set_cons_succ]
            refine takeL (i := 6) (v := ?_) rfl (by kernel_rfl) (by kernel_rfl) (by kernel_rfl) (fun _ _ _ h => h) (Or.inl ⟨by kernel_rfl, ?_⟩) hHeld ?_
            rotate_left
            · rintro w' ⟨s0, s1, s2, s3⟩; go_simp; try simp only [hwi, hwk, hti, htk, h0i, h0k, hi1pI, hk1qI, and_self, if_true]
              rfl
            try simp only [Act.put, List.setIfInBounds_toArray, List.set_cons_zero, List.set_cons_succ]
            refine takeL (i := 7) (v := ?_) rfl (by kernel_rfl) (by kernel_rfl) (by kernel_rfl) (fun _ _ _ h => h) (Or.inl ⟨by kernel_rfl, ?_⟩) hHeld ?_
            rotate_left
            · rintro w' ⟨s0, s1, s2, s3⟩; go_simp; try simp only [hwi, hwk, hti, htk, h0i, h0k, hi1pI, hk1qI, and_self, if_true]
              rfl
            try simp only [Act.put, List.setIfInBounds_toArray, List.set_cons_zero, List.set_cons_succ]
            refine takeL (i := 8) (v := .bool true) rfl (by kernel_rfl) (by kernel_rfl) (by kernel_rfl) (fun _ _ _ h => h) (Or.inl ⟨by kernel_rfl, ?_⟩) hHeld ?_
            · rintro w' ⟨s0, s1, s2, s3⟩; go_simp; try rfl
            try simp only [Act.put, List.setIfInBounds_toArray, List.set_cons_zero, List.set_cons_succ]
            refine takeL (i := 9) (v := .bool true) rfl (by kernel_rfl) (by kernel_rfl) (by kernel_rfl) (fun _ _ _ h => h) (Or.inl ⟨by kernel_rfl, ?_⟩) hHeld ?_
            · rintro w' ⟨s0, s1, s2, s3⟩; go_simp; try rfl
            try simp only [Act.put, List.setIfInBounds_toArray, List.set_cons_zero, List.set_cons_succ]
            refine takeL (i := 10) (v := ?_) rfl (by kernel_rfl) (by kernel_rfl) (by kernel_rfl) (fun _ _ _ h => h) (Or.inl ⟨by kernel_rfl, ?_⟩) hHeld ?_
            rotate_left
            · rintro w' ⟨s0, s1, s2, s3⟩; go_simp; try simp only [hwi, hwk, hti, htk, h0i, h0k, hi1pI, hk1qI, and_self, if_true]
              rfl
            try simp only [Act.put, List.setIfInBounds_toArray, List.set_cons_zero, List.set_cons_succ]
            refine takeL (i := 11) (v := ?_) rfl (by kernel_rfl) (by kernel_rfl) (by kernel_rfl) (fun _ _ _ h => h) (Or.inl ⟨by kernel_rfl, ?_⟩) hHeld ?_
            rotate_left
            · rintro w' ⟨s0, s1, s2, s3⟩; go_simp; try simp only [hwi, hwk, hti, htk, h0i, h0k, hi1pI, hk1qI, and_self, if_true]
              rfl
            try simp only [Act.put, List.setIfInBounds_toArray, List.set_cons_zero, List.set_cons_succ]
            refine takeL (i := 12) (v := ?_) rfl (by kernel_rfl) (by kernel_rfl) (by kernel_rfl) (fun _ _ _ h => h) (Or.inl ⟨by kernel_rfl, ?_⟩) hHeld ?_
            rotate_left
            · rintro w' ⟨s0, s1, s2, s3⟩; go_simp; try simp only [hwi, hwk, hti, htk, h0i, h0k, hi1pI, hk1qI, and_self, if_true]
              rfl
            try simp only [Act.put, List.setIfInBounds_toArray, List.set_cons_zero, List.set_cons_succ]
            refine takeL (i := 13) (v := ?_) rfl (by kernel_rfl) (by kernel_rfl) (by kernel_rfl) (fun _ _ _ h => h) (Or.inl ⟨by kernel_rfl, ?_⟩) hHeld ?_
            rotate_left
            · rintro w' ⟨s0, s1, s2, s3⟩; go_simp; try simp only [hwi, hwk, hti, htk, h0i, h0k, hi1pI, hk1qI, and_self, if_true]
              rfl
            try simp only [Act.put, List.setIfInBounds_toArray, List.set_cons_zero, List.set_cons_succ]
            refine takeL (i := 14) (v := ?_) rfl (by kernel_rfl) (by kernel_rfl) (by kernel_rfl) (fun _ _ _ h => h) (Or.inl ⟨by kernel_rfl, ?_⟩) hHeld ?_
            rotate_left
            · rintro w' ⟨s0, s1, s2, s3⟩; go_simp; try simp only [hwi, hwk, hti, htk, h0i, h0k, hi1pI, hk1qI, and_self, if_true]
              rfl
            try simp only [Act.put, List.setIfInBounds_toArray, List.set_cons_zero, List.set_cons_succ]
            refine takeL (i := 15) (v := ?_) rfl (by kernel_rfl) (by kernel_rfl) (by kernel_rfl) (fun _ _ _ h => h) (Or.inl ⟨by kernel_rfl, ?_⟩) hHeld ?_
            rotate_left
            · rintro w' ⟨s0, s1, s2, s3⟩; go_simp; try simp only [hwi, hwk, hti, htk, h0i, h0k, hi1pI, hk1qI, and_self, if_true]
              rfl
            try simp only [Act.put, List.setIfInBounds_toArray, List.set_cons_zero, List.set_cons_succ]
            refine takeL (i := 16) (v := ?_) rfl (by kernel_rfl) (by kernel_rfl) (by kernel_rfl) (fun _ _ _ h => h) (Or.inl ⟨by kernel_rfl, ?_⟩) hHeld ?_
            rotate_left
            · rintro w' ⟨s0, s1, s2, s3⟩; go_simp; try simp only [hwi, hwk, hti, htk, h0i, h0k, hi1pI, hk1qI, and_self, if_true]
              rfl
            try simp only [Act.put, List.setIfInBounds_toArray, List.set_cons_zero, List.set_cons_succ]
            refine takeL (i := 17) (v := ?_) rfl (by kernel_rfl) (by kernel_rfl) (by kernel_rfl) (fun _ _ _ h => h) (Or.inl ⟨by kernel_rfl, ?_⟩) hHeld ?_
            rotate_left
            · rintro w' ⟨s0, s1, s2, s3⟩; go_simp; try simp only [hwi, hwk, hti, htk, h0i, h0k, hi1pI, hk1qI, and_self, if_true]
              rfl
            try simp only [Act.put, List.setIfInBounds_toArray, List.set_cons_zero, List.set_cons_succ]
            refine takeL (i := 18) (v := ?_) rfl (by kernel_rfl) (by kernel_rfl) (by kernel_rfl) (fun _ _ _ h => h) (Or.inl ⟨by kernel_rfl, ?_⟩) hHeld ?_
            rotate_left
            · rintro w' ⟨s0, s1, s2, s3⟩; go_simp; try simp only [hwi, hwk, hti, htk, h0i, h0k, hi1pI, hk1qI, and_self, if_true]
              rfl
            try simp only [Act.put, List.setIfInBounds_toArray, List.set_cons_zero, List.set_cons_succ]
            refine takeL (i := 19) (v := ?_) rfl (by kernel_rfl) (by kernel_rfl) (by kernel_rfl) (fun _ _ _ h => h) (Or.inl ⟨by kernel_rfl, ?_⟩) hHeld ?_
            rotate_left
            · rintro w' ⟨s0, s1, s2, s3⟩; go_simp; try simp only [hwi, hwk, hti, htk, h0i, h0k, hi1pI, hk1qI, and_self, if_true]
              rfl
            try simp only [Act.put, List.setIfInBounds_toArray, List.set_cons_zero, List.set_cons_succ]
            refine takeL (i := 20) (v := ?_) rfl (by kernel_rfl) (by kernel_rfl) (by kernel_rfl) (fun _ _ _ h => h) (Or.inl ⟨by kernel_rfl, ?_⟩) hHeld ?_
            rotate_left
            · rintro w' ⟨s0, s1, s2, s3⟩; go_simp; try simp only [hwi, hwk, hti, htk, h0i, h0k, hi1pI, hk1qI, and_self, if_true]
              rfl
            try simp only [Act.put, List.setIfInBounds_toArray, List.set_cons_zero, List.set_cons_succ]
            refine takeL (i := 21) (v := ?_) rfl (by kernel_rfl) (by kernel_rfl) (by kernel_rfl) (fun _ _ _ h => h) (Or.inl ⟨by kernel_rfl, ?_⟩) hHeld ?_
            rotate_left
            · rintro w' ⟨s0, s1, s2, s3⟩; go_simp; try simp only [hwi, hwk, hti, htk, h0i, h0k, hi1pI, hk1qI, and_self, if_true]
              rfl
            try simp only [Act.put, List.setIfInBounds_toArray, List.set_cons_zero, List.set_cons_succ]
            refine takeL (i := 22) (v := ?_) rfl (by kernel_rfl) (by kernel_rfl) (by kernel_rfl) (fun _ _ _ h => h) (Or.inl ⟨by kernel_rfl, ?_⟩) hHeld ?_
            rotate_left
            · rintro w' ⟨s0, s1, s2, s3⟩; go_simp; try simp only [hwi, hwk, hti, htk, h0i, h0k, hi1pI, hk1qI, and_self, if_true]
              rfl
            try simp only [Act.put, List.setIfInBounds_toArray, List.set_cons_zero, List.set_cons_succ]
            refine takeL (i := 23) (v := ?_) rfl (by kernel_rfl) (by kernel_rfl) (by kernel_rfl) (fun _ _ _ h => h) (Or.inl ⟨by kernel_rfl, ?_⟩) hHeld ?_
            rotate_left
            · rintro w' ⟨s0, s1, s2, s3⟩; go_simp; try simp only [hwi, hwk, hti, htk, h0i, h0k, hi1pI, hk1qI, and_self, if_true]
              rfl
            try simp only [Act.put, List.setIfInBounds_toArray, List.set_cons_zero, List.set_cons_succ]
            refine takeL (i := 24) (v := ?_) rfl (by kernel_rfl) (by kernel_rfl) (by kernel_rfl) (fun _ _ _ h => h) (Or.inl ⟨by kernel_rfl, ?_⟩) hHeld ?_
            rotate_left
            · rintro w' ⟨s0, s1, s2, s3⟩; go_simp; try simp only [hwi, hwk, hti, htk, h0i, h0k, hi1pI, hk1qI, and_self, if_true]
              rfl
            try simp only [Act.put, List.setIfInBounds_toArray, List.set_cons_zero, List.set_cons_succ]
            refine takeL (i := 25) (v := ?_) rfl (by kernel_rfl) (by kernel_rfl) (by kernel_rfl) (fun _ _ _ h => h) (Or.inl ⟨by kernel_rfl, ?_⟩) hHeld ?_
            rotate_left
            · rintro w' ⟨s0, s1, s2, s3⟩; go_simp; try simp only [hwi, hwk, hti, htk, h0i, h0k, hi1pI, hk1qI, and_self, if_true]
              rfl
            try simp only [Act.put, List.setIfInBounds_toArray, List.set_cons_zero, List.set_cons_succ]
            refine takeL (i := 26) (v := .bool false) rfl (by kernel_rfl) (by kernel_rfl) (by kernel_rfl) (fun _ _ _ h => h) (Or.inl ⟨by kernel_rfl, ?_⟩) hHeld ?_
            · rintro w' ⟨s0, s1, s2, s3⟩; go_simp; try rfl
            try simp only [Act.put, List.setIfInBounds_toArray, List.set_cons_zero, List.set_cons_succ]
            refine takeL (i := 27) (v := .bool false) rfl (by kernel_rfl) (by kernel_rfl) (by kernel_rfl) (fun _ _ _ h => h) (Or.inl ⟨by kernel_rfl, ?_⟩) hHeld ?_
            · rintro w' ⟨s0, s1, s2, s3⟩; go_simp; try rfl
            try simp only [Act.put, List.setIfInBounds_toArray, List.set_cons_zero, List.set_cons_succ]
            refine takeL (i := 28) (v := .bool false) rfl (by kernel_rfl) (by kernel_rfl) (by kernel_rfl) (fun _ _ _ h => h) (Or.inl ⟨by rfl, ?_⟩) hHeld ?_
            · rintro w' ⟨s0, s1, s2, s3⟩; go_simp; try rfl
            try simp only [Act.put, List.setIfInBounds_toArray, List.set_cons_zero, List.set_cons_succ]
            refine takeL (i := 29) (v := .bool false) rfl (by kernel_rfl) (by kernel_rfl) (by kernel_rfl) (fun _ _ _ h => h) (Or.inl ⟨by rfl, ?_⟩) hHeld ?_
            · rintro w' ⟨s0, s1, s2, s3⟩; go_simp; try rfl
            try simp only [Act.put, List.setIfInBounds_toArray, List.set_cons_zero, List.set_cons_succ]
            refine wpAnyH_done (by kernel_rfl) ?_ _
            clear hHeld
            have hcc := HCY.out we HBE2.out.below
            have HED2 : Hid ((L ++ [(2, y)]) ++ ed (A.drop (i)) (B.drop (k + 1)) = E) := hid (by
              have h9 := HED.out
              rw [ed_next_insert A B i k (by rw [HN.out]; exact hin) (by rw [HM.out]; exact hkm) (by rw [HX.out, HY.out]; exact hxy) (by rw [HV2.out, HU2.out]; exact huv), HY.out] at h9
              rw [List.append_assoc]
              exact h9)
            go_wp2_with (first
              | refine wpList_bS rfl 23 1 _ rfl (.agg #[.int .i64 2, .string BY]) _ rfl (HD2.out _) ?_
              | (refine app_edK und26 Tryz.info43 HBE2.out hLl hl4 2 y 2 rfl BY HBY.out rfl _ _ rfl rfl rfl ?_; intro a' c' w' HB')
              | fail)
            go_roundg ((n - (i)) + (m - (k + 1)))
            case measure => omega
            case rel => exact ⟨i, k + 1, l + 1, L ++ [(2, y)], a', c', rfl, by go_num, by go_num, by simp [hLl], by omega, by omega, rfl, HB', HED2⟩
      · have hkmI : ¬ (k : Int) < (m : Int) := by omega
        have hkm2 : k = m := by omega
        have hke : ((k : Int) == (m : Int)) = true := by simp; omega
        have hi1pI : (0 : Int) = 0 := rfl
        have hk1qI : (0 : Int) = 0 := rfl
        go_wp2_with fail
        refine wp_region_held_drew (S := fun _ => True) (by kernel_rfl) trivial (fun hHeld => ?_)
        generalize wr.drew = wd at HBEd ⊢
        refine takeL (i := 0) (v := ?_) rfl (by kernel_rfl) (by kernel_rfl) (by kernel_rfl) (fun _ _ _ h => h) (Or.inl ⟨by rfl, ?_⟩) hHeld ?_
        rotate_left
        · rintro w' _; go_simp; try simp only [hwi, hwk, hti, htk, h0i, h0k, hi1pI, hk1qI, and_self, if_true]
          rfl
        try simp only [Act.put, List.setIfInBounds_toArray, List.set_cons_zero, List.set_cons_succ]
        refine takeL (i := 1) (v := ?_) rfl (by kernel_rfl) (by kernel_rfl) (by kernel_rfl) (fun _ _ _ h => h) (Or.inl ⟨by rfl, ?_⟩) hHeld ?_
        rotate_left
        · rintro w' _; go_simp; try simp only [hwi, hwk, hti, htk, h0i, h0k, hi1pI, hk1qI, and_self, if_true]
          rfl
        try simp only [Act.put, List.setIfInBounds_toArray, List.set_cons_zero, List.set_cons_succ]
        refine takeL (i := 2) (v := ?_) rfl (by kernel_rfl) (by kernel_rfl) (by kernel_rfl) (fun _ _ _ h => h) (Or.inl ⟨by rfl, ?_⟩) hHeld ?_
        rotate_left
        · rintro w' _; go_simp; try simp only [hwi, hwk, hti, htk, h0i, h0k, hi1pI, hk1qI, and_self, if_true]
          rfl
        try simp only [Act.put, List.setIfInBounds_toArray, List.set_cons_zero, List.set_cons_succ]
        refine takeL (i := 3) (v := .bool true) rfl (by kernel_rfl) (by kernel_rfl) (by kernel_rfl) (fun _ _ _ h => h) (Or.inl ⟨by rfl, ?_⟩) hHeld ?_
        · rintro w' _; go_simp; try rfl
        try simp only [Act.put, List.setIfInBounds_toArray, List.set_cons_zero, List.set_cons_succ]
        refine takeL (i := 4) (v := .bool true) rfl (by kernel_rfl) (by kernel_rfl) (by kernel_rfl) (fun _ _ _ h => h) (Or.inl ⟨by rfl, ?_⟩) hHeld ?_
        · rintro w' _; go_simp; try rfl
        try simp only [Act.put, List.setIfInBounds_toArray, List.set_cons_zero, List.set_cons_succ]
        refine takeL (i := 5) (v := ?_) rfl (by kernel_rfl) (by kernel_rfl) (by kernel_rfl) (fun _ _ _ h => h) (Or.inl ⟨by kernel_rfl, ?_⟩) hHeld ?_
        rotate_left
        · rintro w' _; go_simp; try simp only [hwi, hwk, hti, htk, h0i, h0k, hi1pI, hk1qI, and_self, if_true]
          rfl
        try simp only [Act.put, List.setIfInBounds_toArray, List.set_cons_zero, List.set_cons_succ]
        refine takeL (i := 6) (v := ?_) rfl (by kernel_rfl) (by kernel_rfl) (by kernel_rfl) (fun _ _ _ h => h) (Or.inl ⟨by kernel_rfl, ?_⟩) hHeld ?_
        rotate_left
        · rintro w' _; go_simp; try simp only [hwi, hwk, hti, htk, h0i, h0k, hi1pI, hk1qI, and_self, if_true]
          rfl
        try simp only [Act.put, List.setIfInBounds_toArray, List.set_cons_zero, List.set_cons_succ]
        refine takeL (i := 7) (v := ?_) rfl (by kernel_rfl) (by kernel_rfl) (by kernel_rfl) (fun _ _ _ h => h) (Or.inl ⟨by kernel_rfl, ?_⟩) hHeld ?_
        rotate_left
        · rintro w' _; go_simp; try simp only [hwi, hwk, hti, htk, h0i, h0k, hi1pI, hk1qI, and_self, if_true]
          rfl
        try simp only [Act.put, List.setIfInBounds_toArray, List.set_cons_zero, List.set_cons_succ]
        refine takeL (i := 8) (v := .bool false) rfl (by kernel_rfl) (by kernel_rfl) (by kernel_rfl) (fun _ _ _ h => h) (Or.inl ⟨by kernel_rfl, ?_⟩) hHeld ?_
        · rintro w' _; go_simp; try rfl
        try simp only [Act.put, List.setIfInBounds_toArray, List.set_cons_zero, List.set_cons_succ]
        refine takeL (i := 9) (v := .bool false) rfl (by kernel_rfl) (by kernel_rfl) (by kernel_rfl) (fun _ _ _ h => h) (Or.inl ⟨by rfl, ?_⟩) hHeld ?_
        · rintro w' _; go_simp; try rfl
        try simp only [Act.put, List.setIfInBounds_toArray, List.set_cons_zero, List.set_cons_succ]
        refine takeL (i := 10) (v := .bool false) rfl (by kernel_rfl) (by kernel_rfl) (by kernel_rfl) (fun _ _ _ h => h) (Or.inl ⟨by rfl, ?_⟩) hHeld ?_
        · rintro w' _; go_simp; try rfl
        try simp only [Act.put, List.setIfInBounds_toArray, List.set_cons_zero, List.set_cons_succ]
        refine takeL (i := 11) (v := undef) rfl (by kernel_rfl) (by kernel_rfl) (by kernel_rfl) (fun _ _ _ h => h) (Or.inr ⟨by kernel_rfl, rfl⟩) hHeld ?_
        try simp only [Act.put, List.setIfInBounds_toArray, List.set_cons_zero, List.set_cons_succ]
        refine takeL (i := 12) (v := undef) rfl (by kernel_rfl) (by kernel_rfl) (by kernel_rfl) (fun _ _ _ h => h) (Or.inr ⟨by kernel_rfl, rfl⟩) hHeld ?_
        try simp only [Act.put, List.setIfInBounds_toArray, List.set_cons_zero, List.set_cons_succ]
        refine takeL (i := 13) (v := undef) rfl (by kernel_rfl) (by kernel_rfl) (by kernel_rfl) (fun _ _ _ h => h) (Or.inr ⟨by kernel_rfl, rfl⟩) hHeld ?_
        try simp only [Act.put, List.setIfInBounds_toArray, List.set_cons_zero, List.set_cons_succ]
        refine takeL (i := 14) (v := undef) rfl (by kernel_rfl) (by kernel_rfl) (by kernel_rfl) (fun _ _ _ h => h) (Or.inr ⟨by kernel_rfl, rfl⟩) hHeld ?_
        try simp only [Act.put, List.setIfInBounds_toArray, List.set_cons_zero, List.set_cons_succ]
        refine takeL (i := 15) (v := undef) rfl (by kernel_rfl) (by kernel_rfl) (by kernel_rfl) (fun _ _ _ h => h) (Or.inr ⟨by kernel_rfl, rfl⟩) hHeld ?_
        try simp only [Act.put, List.setIfInBounds_toArray, List.set_cons_zero, List.set_cons_succ]
        refine takeL (i := 16) (v := undef) rfl (by kernel_rfl) (by kernel_rfl) (by kernel_rfl) (fun _ _ _ h => h) (Or.inr ⟨by kernel_rfl, rfl⟩) hHeld ?_
        try simp only [Act.put, List.setIfInBounds_toArray, List.set_cons_zero, List.set_cons_succ]
        refine takeL (i := 17) (v := undef) rfl (by kernel_rfl) (by kernel_rfl) (by kernel_rfl) (fun _ _ _ h => h) (Or.inr ⟨by kernel_rfl, rfl⟩) hHeld ?_
        try simp only [Act.put, List.setIfInBounds_toArray, List.set_cons_zero, List.set_cons_succ]
        refine takeL (i := 18) (v := undef) rfl (by kernel_rfl) (by kernel_rfl) (by kernel_rfl) (fun _ _ _ h => h) (Or.inr ⟨by kernel_rfl, rfl⟩) hHeld ?_
        try simp only [Act.put, List.setIfInBounds_toArray, List.set_cons_zero, List.set_cons_succ]
        refine takeL (i := 19) (v := undef) rfl (by kernel_rfl) (by kernel_rfl) (by kernel_rfl) (fun _ _ _ h => h) (Or.inr ⟨by kernel_rfl, rfl⟩) hHeld ?_
        try simp only [Act.put, List.setIfInBounds_toArray, List.set_cons_zero, List.set_cons_succ]
        refine takeL (i := 20) (v := .bool false) rfl (by kernel_rfl) (by kernel_rfl) (by kernel_rfl) (fun _ _ _ h => h) (Or.inl ⟨by rfl, ?_⟩) hHeld ?_
        · rintro w' _; go_simp; try rfl
        try simp only [Act.put, List.setIfInBounds_toArray, List.set_cons_zero, List.set_cons_succ]
        refine takeL (i := 21) (v := .bool false) rfl (by kernel_rfl) (by kernel_rfl) (by kernel_rfl) (fun _ _ _ h => h) (Or.inl ⟨by rfl, ?_⟩) hHeld ?_
        · rintro w' _; go_simp; try rfl
        try simp only [Act.put, List.setIfInBounds_toArray, List.set_cons_zero, List.set_cons_succ]
        refine wpAnyH_done (by kernel_rfl) ?_ _
        clear hHeld
        have hbd : Below wd.heap.size wd wd.drew := ⟨rfl, rfl, rfl, Nat.le_refl _, fun _ _ => rfl⟩
        have HBE2 : Hid (BE 43 w4 wd.drew R (.slice la l lc) L) := hid (HBEd.out.carry hbd)
        clear hbd
        go_wp2_with fail
        refine wp_region_held_drew (S := fun _ => True) (by kernel_rfl) trivial (fun hHeld => ?_)
        generalize wd.drew = we at HBE2 ⊢
        refine takeL (i := 0) (v := ?_) rfl (by kernel_rfl) (by kernel_rfl) (by kernel_rfl) (fun _ _ _ h => h) (Or.inl ⟨by rfl, ?_⟩) hHeld ?_
        rotate_left
        · rintro w' _; go_simp; try simp only [hwi, hwk, hti, htk, h0i, h0k, hi1pI, hk1qI, and_self, if_true]
          rfl
        try simp only [Act.put, List.setIfInBounds_toArray, List.set_cons_zero, List.set_cons_succ]
        refine takeL (i := 1) (v := ?_) rfl (by kernel_rfl) (by kernel_rfl) (by kernel_rfl) (fun _ _ _ h => h) (Or.inl ⟨by rfl, ?_⟩) hHeld ?_
        rotate_left
        · rintro w' _; go_simp; try simp only [hwi, hwk, hti, htk, h0i, h0k, hi1pI, hk1qI, and_self, if_true]
          rfl
        try simp only [Act.put, List.setIfInBounds_toArray, List.set_cons_zero, List.set_cons_succ]
        refine takeL (i := 2) (v := ?_) rfl (by kernel_rfl) (by kernel_rfl) (by kernel_rfl) (fun _ _ _ h => h) (Or.inl ⟨by rfl, ?_⟩) hHeld ?_
        rotate_left
        · rintro w' _; go_simp; try simp only [hwi, hwk, hti, htk, h0i, h0k, hi1pI, hk1qI, and_self, if_true]
          rfl
        try simp only [Act.put, List.setIfInBounds_toArray, List.set_cons_zero, List.set_cons_succ]
        refine takeL (i := 3) (v := .bool true) rfl (by kernel_rfl) (by kernel_rfl) (by kernel_rfl) (fun _ _ _ h => h) (Or.inl ⟨by rfl, ?_⟩) hHeld ?_
        · rintro w' _; go_simp; try rfl
        try simp only [Act.put, List.setIfInBounds_toArray, List.set_cons_zero, List.set_cons_succ]
        refine takeL (i := 4) (v := .bool true) rfl (by kernel_rfl) (by kernel_rfl) (by kernel_rfl) (fun _ _ _ h => h) (Or.inl ⟨by rfl, ?_⟩) hHeld ?_
        · rintro w' _; go_simp; try rfl
        try simp only [Act.put, List.setIfInBounds_toArray, List.set_cons_zero, List.set_cons_succ]
        refine takeL (i := 5) (v := undef) rfl (by kernel_rfl) (by kernel_rfl) (by kernel_rfl) (fun _ _ _ h => h) (Or.inr ⟨by kernel_rfl, rfl⟩) hHeld ?_
        try simp only [Act.put, List.setIfInBounds_toArray, List.set_cons_zero, List.set_cons_succ]
        refine takeL (i := 6) (v := undef) rfl (by kernel_rfl) (by kernel_rfl) (by kernel_rfl) (fun _ _ _ h => h) (Or.inr ⟨by kernel_rfl, rfl⟩) hHeld ?_
        try simp only [Act.put, List.setIfInBounds_toArray, List.set_cons_zero, List.set_cons_succ]
        refine takeL (i := 7) (v := undef) rfl (by kernel_rfl) (by kernel_rfl) (by kernel_rfl) (fun _ _ _ h => h) (Or.inr ⟨by kernel_rfl, rfl⟩) hHeld ?_
        try simp only [Act.put, List.setIfInBounds_toArray, List.set_cons_zero, List.set_cons_succ]
        refine takeL (i := 8) (v := undef) rfl (by kernel_rfl) (by kernel_rfl) (by kernel_rfl) (fun _ _ _ h => h) (Or.inr ⟨by kernel_rfl, rfl⟩) hHeld ?_
        try simp only [Act.put, List.setIfInBounds_toArray, List.set_cons_zero, List.set_cons_succ]
        refine takeL (i := 9) (v := undef) rfl (by kernel_rfl) (by kernel_rfl) (by kernel_rfl) (fun _ _ _ h => h) (Or.inr ⟨by kernel_rfl, rfl⟩) hHeld ?_
        try simp only [Act.put, List.setIfInBounds_toArray, List.set_cons_zero, List.set_cons_succ]
        refine takeL (i := 10) (v := undef) rfl (by kernel_rfl) (by kernel_rfl) (by kernel_rfl) (fun _ _ _ h => h) (Or.inr ⟨by kernel_rfl, rfl⟩) hHeld ?_
        try simp only [Act.put, List.setIfInBounds_toArray, List.set_cons_zero, List.set_cons_succ]
        refine takeL (i := 11) (v := undef) rfl (by kernel_rfl) (by kernel_rfl) (by kernel_rfl) (fun _ _ _ h => h) (Or.inr ⟨by kernel_rfl, rfl⟩) hHeld ?_
        try simp only [Act.put, List.setIfInBounds_toArray, List.set_cons_zero, List.set_cons_succ]
        refine takeL (i := 12) (v := undef) rfl (by kernel_rfl) (by kernel_rfl) (by kernel_rfl) (fun _ _ _ h => h) (Or.inr ⟨by kernel_rfl, rfl⟩) hHeld ?_
        try simp only [Act.put, List.setIfInBounds_toArray, List.set_cons_zero, List.set_cons_succ]
        refine takeL (i := 13) (v := undef) rfl (by kernel_rfl) (by kernel_rfl) (by kernel_rfl) (fun _ _ _ h => h) (Or.inr ⟨by kernel_rfl, rfl⟩) hHeld ?_
        try simp only [Act.put, List.setIfInBounds_toArray, List.set_cons_zero, List.set_cons_succ]
        refine takeL (i := 14) (v := undef) rfl (by kernel_rfl) (by kernel_rfl) (by kernel_rfl) (fun _ _ _ h => h) (Or.inr ⟨by kernel_rfl, rfl⟩) hHeld ?_
        try simp only [Act.put, List.setIfInBounds_toArray, List.set_cons_zero, List.set_cons_succ]
        refine takeL (i := 15) (v := undef) rfl (by kernel_rfl) (by kernel_rfl) (by kernel_rfl) (fun _ _ _ h => h) (Or.inr ⟨by kernel_rfl, rfl⟩) hHeld ?_
        try simp only [Act.put, List.setIfInBounds_toArray, List.set_cons_zero, List.set_cons_succ]
        refine takeL (i := 16) (v := undef) rfl (by kernel_rfl) (by kernel_rfl) (by kernel_rfl) (fun _ _ _ h => h) (Or.inr ⟨by kernel_rfl, rfl⟩) hHeld ?_
        try simp only [Act.put, List.setIfInBounds_toArray, List.set_cons_zero, List.set_cons_succ]
        refine takeL (i := 17) (v := undef) rfl (by kernel_rfl) (by kernel_rfl) (by kernel_rfl) (fun _ _ _ h => h) (Or.inr ⟨by kernel_rfl, rfl⟩) hHeld ?_
        try simp only [Act.put, List.setIfInBounds_toArray, List.set_cons_zero, List.set_cons_succ]
        refine takeL (i := 18) (v := undef) rfl (by kernel_rfl) (by kernel_rfl) (by kernel_rfl) (fun _ _ _ h => h) (Or.inr ⟨by kernel_rfl, rfl⟩) hHeld ?_
        try simp only [Act.put, List.setIfInBounds_toArray, List.set_cons_zero, List.set_cons_succ]
        refine takeL (i := 19) (v := undef) rfl (by kernel_rfl) (by kernel_rfl) (by kernel_rfl) (fun _ _ _ h => h) (Or.inr ⟨by kernel_rfl, rfl⟩) hHeld ?_
        try simp only [Act.put, List.setIfInBounds_toArray, List.set_cons_zero, List.set_cons_succ]
        refine takeL (i := 20) (v := undef) rfl (by kernel_rfl) (by kernel_rfl) (by kernel_rfl) (fun _ _ _ h => h) (Or.inr ⟨by kernel_rfl, rfl⟩) hHeld ?_
        try simp only [Act.put, List.setIfInBounds_toArray, List.set_cons_zero, List.set_cons_succ]
        refine takeL (i := 21) (v := undef) rfl (by kernel_rfl) (by kernel_rfl) (by kernel_rfl) (fun _ _ _ h => h) (Or.inr ⟨by kernel_rfl, rfl⟩) hHeld ?_
        try simp only [Act.put, List.setIfInBounds_toArray, List.set_cons_zero, List.set_cons_succ]
        refine takeL (i := 22) (v := undef) rfl (by kernel_rfl) (by kernel_rfl) (by kernel_rfl) (fun _ _ _ h => h) (Or.inr ⟨by kernel_rfl, rfl⟩) hHeld ?_
        try simp only [Act.put, List.setIfInBounds_toArray, List.set_cons_zero, List.set_cons_succ]
        refine takeL (i := 23) (v := undef) rfl (by kernel_rfl) (by kernel_rfl) (by kernel_rfl) (fun _ _ _ h => h) (Or.inr ⟨by kernel_rfl, rfl⟩) hHeld ?_
        try simp only [Act.put, List.setIfInBounds_toArray, List.set_cons_zero, List.set_cons_succ]
        refine takeL (i := 24) (v := undef) rfl (by kernel_rfl) (by kernel_rfl) (by kernel_rfl) (fun _ _ _ h => h) (Or.inr ⟨by kernel_rfl, rfl⟩) hHeld ?_
        try simp only [Act.put, List.setIfInBounds_toArray, List.set_cons_zero, List.set_cons_succ]
        refine takeL (i := 25) (v := undef) rfl (by kernel_rfl) (by kernel_rfl) (by kernel_rfl) (fun _ _ _ h => h) (Or.inr ⟨by kernel_rfl, rfl⟩) hHeld ?_
        try simp only [Act.put, List.setIfInBounds_toArray, List.set_cons_zero, List.set_cons_succ]
        refine takeL (i := 26) (v := undef) rfl (by kernel_rfl) (by kernel_rfl) (by kernel_rfl) (fun _ _ _ h => h) (Or.inr ⟨by kernel_rfl, rfl⟩) hHeld ?_
        try simp only [Act.put, List.setIfInBounds_toArray, List.set_cons_zero, List.set_cons_succ]
        refine takeL (i := 27) (v := undef) rfl (by kernel_rfl) (by kernel_rfl) (by kernel_rfl) (fun _ _ _ h => h) (Or.inr ⟨by kernel_rfl, rfl⟩) hHeld ?_
        try simp only [Act.put, List.setIfInBounds_toArray, List.set_cons_zero, List.set_cons_succ]
        refine takeL (i := 28) (v := .bool true) rfl (by kernel_rfl) (by kernel_rfl) (by kernel_rfl) (fun _ _ _ h => h) (Or.inl ⟨by rfl, ?_⟩) hHeld ?_
        · rintro w' _; go_simp; try rfl
        try simp only [Act.put, List.setIfInBounds_toArray, List.set_cons_zero, List.set_cons_succ]
        refine takeL (i := 29) (v := .bool true) rfl (by kernel_rfl) (by kernel_rfl) (by kernel_rfl) (fun _ _ _ h => h) (Or.inl ⟨by rfl, ?_⟩) hHeld ?_
        · rintro w' _; go_simp; try rfl
        try simp only [Act.put, List.setIfInBounds_toArray, List.set_cons_zero, List.set_cons_succ]
        refine wpAnyH_done (by kernel_rfl) ?_ _
        clear hHeld
        have hcc := HCX.out we HBE2.out.below
        have HED2 : Hid ((L ++ [(1, x)]) ++ ed (A.drop (i + 1)) (B.drop (k)) = E) := hid (by
          have h9 := HED.out
          rw [ed_next_end A B i k (by rw [HN.out]; exact hin) (by rw [HM.out]; omega), HX.out] at h9
          rw [List.append_assoc]
          exact h9)
        go_wp2_with (first
          | refine wpList_bS rfl 23 1 _ rfl (.agg #[.int .i64 1, .string BX]) _ rfl (HD1.out _) ?_
          | (refine app_edK und26 Tryz.info43 HBE2.out hLl hl4 1 x 1 rfl BX HBX.out rfl _ _ rfl rfl rfl ?_; intro a' c' w' HB')
          | fail)
        go_roundg ((n - (i + 1)) + (m - (k)))
        case measure => omega
        case rel => exact ⟨i + 1, k, l + 1, L ++ [(1, x)], a', c', rfl, by go_num, by go_num, by simp [hLl], by omega, by omega, rfl, HB', HED2⟩
    · have hinI : ¬ (i : Int) < (n : Int) := by omega
      have hi1pI : (0 : Int) = 0 := rfl
      have hk1qI : (0 : Int) = 0 := rfl
      by_cases hkm : k < m
      · have hkmI : (k : Int) < (m : Int) := by omega
        have hkne : ((k : Int) == (m : Int)) = false := by simp; omega
        obtain ⟨bb, ob, e1⟩ := HFB.out (by omega)
        subst e1
        obtain ⟨y, HY⟩ : ∃ x, Hid (B.getD k [] = x) := ⟨_, rfl⟩
        obtain ⟨BY, HBY⟩ : ∃ X, Hid ((⟨y.toArray⟩ : ByteArray) = X) := ⟨_, rfl⟩
        have HCY : Hid (∀ W, Below R w4 W → W.cell? ⟨bb, ob + k, none⟩ = some (.string BY)) := fun W hW => by
          rw [← HBY.out, ← HY.out]
          exact PS.str (HPB.out W (HBW.out W hW)) k (by rw [HM.out]; exact hkm)
        have HD2 : Hid (∀ W : World, (Instr.buildSlice 23 1 #[(0, .agg #[.int .i64 2, .string BY])]).run Tryz.prog W = .ok (.slice (some ⟨W.heap.size, 0, none⟩) 1 1) (W.alloc (.cells #[.int .i64 2, .string BY] 43))) := fun W => run_build26 2 (.string BY) ⟨_, rfl⟩ W
        go_wp2_with fail
        refine wp_region_held_drew (S := fun _ => True) (by kernel_rfl) trivial (fun hHeld => ?_)
        generalize wr.drew = wd at HBEd ⊢
        refine takeL (i := 0) (v := ?_) rfl (by kernel_rfl) (by kernel_rfl) (by kernel_rfl) (fun _ _ _ h => h) (Or.inl ⟨by rfl, ?_⟩) hHeld ?_
        rotate_left
        · rintro w' _; go_simp; try simp only [hwi, hwk, hti, htk, h0i, h0k, hi1pI, hk1qI, and_self, if_true]
          rfl
        try simp only [Act.put, List.setIfInBounds_toArray, List.set_cons_zero, List.set_cons_succ]
        refine takeL (i := 1) (v := ?_) rfl (by kernel_rfl) (by kernel_rfl) (by kernel_rfl) (fun _ _ _ h => h) (Or.inl ⟨by rfl, ?_⟩) hHeld ?_
        rotate_left
        · rintro w' _; go_simp; try simp only [hwi, hwk, hti, htk, h0i, h0k, hi1pI, hk1qI, and_self, if_true]
          rfl
        try simp only [Act.put, List.setIfInBounds_toArray, List.set_cons_zero, List.set_cons_succ]
        refine takeL (i := 2) (v := ?_) rfl (by kernel_rfl) (by kernel_rfl) (by kernel_rfl) (fun _ _ _ h => h) (Or.inl ⟨by rfl, ?_⟩) hHeld ?_
        rotate_left
        · rintro w' _; go_simp; try simp only [hwi, hwk, hti, htk, h0i, h0k, hi1pI, hk1qI, and_self, if_true]
          rfl
        try simp only [Act.put, List.setIfInBounds_toArray, List.set_cons_zero, List.set_cons_succ]
        refine takeL (i := 3) (v := .bool false) rfl (by kernel_rfl) (by kernel_rfl) (by kernel_rfl) (fun _ _ _ h => h) (Or.inl ⟨by rfl, ?_⟩) hHeld ?_
        · rintro w' _; go_simp; try rfl
        try simp only [Act.put, List.setIfInBounds_toArray, List.set_cons_zero, List.set_cons_succ]
        refine takeL (i := 4) (v := .bool false) rfl (by kernel_rfl) (by kernel_rfl) (by kernel_rfl) (fun _ _ _ h => h) (Or.inl ⟨by rfl, ?_⟩) hHeld ?_
        · rintro w' _; go_simp; try rfl
        try simp only [Act.put, List.setIfInBounds_toArray, List.set_cons_zero, List.set_cons_succ]
        refine takeL (i := 5) (v := undef) rfl (by kernel_rfl) (by kernel_rfl) (by kernel_rfl) (fun _ _ _ h => h) (Or.inr ⟨by kernel_rfl, rfl⟩) hHeld ?_
        try simp only [Act.put, List.setIfInBounds_toArray, List.set_cons_zero, List.set_cons_succ]
        refine takeL (i := 6) (v := undef) rfl (by kernel_rfl) (by kernel_rfl) (by kernel_rfl) (fun _ _ _ h => h) (Or.inr ⟨by kernel_rfl, rfl⟩) hHeld ?_
        try simp only [Act.put, List.setIfInBounds_toArray, List.set_cons_zero, List.set_cons_succ]
        refine takeL (i := 7) (v := undef) rfl (by kernel_rfl) (by kernel_rfl) (by kernel_rfl) (fun _ _ _ h => h) (Or.inr ⟨by kernel_rfl, rfl⟩) hHeld ?_
        try simp only [Act.put, List.setIfInBounds_toArray, List.set_cons_zero, List.set_cons_succ]
        refine takeL (i := 8) (v := undef) rfl (by kernel_rfl) (by kernel_rfl) (by kernel_rfl) (fun _ _ _ h => h) (Or.inr ⟨by kernel_rfl, rfl⟩) hHeld ?_
        try simp only [Act.put, List.setIfInBounds_toArray, List.set_cons_zero, List.set_cons_succ]
        refine takeL (i := 9) (v := .bool false) rfl (by kernel_rfl) (by kernel_rfl) (by kernel_rfl) (fun _ _ _ h => h) (Or.inl ⟨by rfl, ?_⟩) hHeld ?_
        · rintro w' _; go_simp; try rfl
        try simp only [Act.put, List.setIfInBounds_toArray, List.set_cons_zero, List.set_cons_succ]
        refine takeL (i := 10) (v := .bool false) rfl (by kernel_rfl) (by kernel_rfl) (by kernel_rfl) (fun _ _ _ h => h) (Or.inl ⟨by rfl, ?_⟩) hHeld ?_
        · rintro w' _; go_simp; try rfl
        try simp only [Act.put, List.setIfInBounds_toArray, List.set_cons_zero, List.set_cons_succ]
        refine takeL (i := 11) (v := undef) rfl (by kernel_rfl) (by kernel_rfl) (by kernel_rfl) (fun _ _ _ h => h) (Or.inr ⟨by kernel_rfl, rfl⟩) hHeld ?_
        try simp only [Act.put, List.setIfInBounds_toArray, List.set_cons_zero, List.set_cons_succ]
        refine takeL (i := 12) (v := undef) rfl (by kernel_rfl) (by kernel_rfl) (by kernel_rfl) (fun _ _ _ h => h) (Or.inr ⟨by kernel_rfl, rfl⟩) hHeld ?_
        try simp only [Act.put, List.setIfInBounds_toArray, List.set_cons_zero, List.set_cons_succ]
        refine takeL (i := 13) (v := undef) rfl (by kernel_rfl) (by kernel_rfl) (by kernel_rfl) (fun _ _ _ h => h) (Or.inr ⟨by kernel_rfl, rfl⟩) hHeld ?_
        try simp only [Act.put, List.setIfInBounds_toArray, List.set_cons_zero, List.set_cons_succ]
        refine takeL (i := 14) (v := undef) rfl (by kernel_rfl) (by kernel_rfl) (by kernel_rfl) (fun _ _ _ h => h) (Or.inr ⟨by kernel_rfl, rfl⟩) hHeld ?_
        try simp only [Act.put, List.setIfInBounds_toArray, List.set_cons_zero, List.set_cons_succ]
        refine takeL (i := 15) (v := undef) rfl (by kernel_rfl) (by kernel_rfl) (by kernel_rfl) (fun _ _ _ h => h) (Or.inr ⟨by kernel_rfl, rfl⟩) hHeld ?_
        try simp only [Act.put, List.setIfInBounds_toArray, List.set_cons_zero, List.set_cons_succ]
        refine takeL (i := 16) (v := undef) rfl (by kernel_rfl) (by kernel_rfl) (by kernel_rfl) (fun _ _ _ h => h) (Or.inr ⟨by kernel_rfl, rfl⟩) hHeld ?_
        try simp only [Act.put, List.setIfInBounds_toArray, List.set_cons_zero, List.set_cons_succ]
        refine takeL (i := 17) (v := undef) rfl (by kernel_rfl) (by kernel_rfl) (by kernel_rfl) (fun _ _ _ h => h) (Or.inr ⟨by kernel_rfl, rfl⟩) hHeld ?_
        try simp only [Act.put, List.setIfInBounds_toArray, List.set_cons_zero, List.set_cons_succ]
        refine takeL (i := 18) (v := undef) rfl (by kernel_rfl) (by kernel_rfl) (by kernel_rfl) (fun _ _ _ h => h) (Or.inr ⟨by kernel_rfl, rfl⟩) hHeld ?_
        try simp only [Act.put, List.setIfInBounds_toArray, List.set_cons_zero, List.set_cons_succ]
        refine takeL (i := 19) (v := undef) rfl (by kernel_rfl) (by kernel_rfl) (by kernel_rfl) (fun _ _ _ h => h) (Or.inr ⟨by kernel_rfl, rfl⟩) hHeld ?_
        try simp only [Act.put, List.setIfInBounds_toArray, List.set_cons_zero, List.set_cons_succ]
        refine takeL (i := 20) (v := .bool false) rfl (by kernel_rfl) (by kernel_rfl) (by kernel_rfl) (fun _ _ _ h => h) (Or.inl ⟨by rfl, ?_⟩) hHeld ?_
        · rintro w' _; go_simp; try rfl
        try simp only [Act.put, List.setIfInBounds_toArray, List.set_cons_zero, List.set_cons_succ]
        refine takeL (i := 21) (v := .bool false) rfl (by kernel_rfl) (by kernel_rfl) (by kernel_rfl) (fun _ _ _ h => h) (Or.inl ⟨by rfl, ?_⟩) hHeld ?_
        · rintro w' _; go_simp; try rfl
        try simp only [Act.put, List.setIfInBounds_toArray, List.set_cons_zero, List.set_cons_succ]
        refine wpAnyH_done (by kernel_rfl) ?_ _
        clear hHeld
        have hbd : Below wd.heap.size wd wd.drew := ⟨rfl, rfl, rfl, Nat.le_refl _, fun _ _ => rfl⟩
        have HBE2 : Hid (BE 43 w4 wd.drew R (.slice la l lc) L) := hid (HBEd.out.carry hbd)
        clear hbd
        go_wp2_with fail
        refine wp_region_held_drew (S := fun _ => True) (by kernel_rfl) trivial (fun hHeld => ?_)
        generalize wd.drew = we at HBE2 ⊢
        refine takeL (i := 0) (v := ?_) rfl (by kernel_rfl) (by kernel_rfl) (by kernel_rfl) (fun _ _ _ h => h) (Or.inl ⟨by rfl, ?_⟩) hHeld ?_
        rotate_left
        · rintro w' _; go_simp; try simp only [hwi, hwk, hti, htk, h0i, h0k, hi1pI, hk1qI, and_self, if_true]
          rfl
        try simp only [Act.put, List.setIfInBounds_toArray, List.set_cons_zero, List.set_cons_succ]
        refine takeL (i := 1) (v := ?_) rfl (by kernel_rfl) (by kernel_rfl) (by kernel_rfl) (fun _ _ _ h => h) (Or.inl ⟨by rfl, ?_⟩) hHeld ?_
        rotate_left
        · rintro w' _; go_simp; try simp only [hwi, hwk, hti, htk, h0i, h0k, hi1pI, hk1qI, and_self, if_true]
          rfl
        try simp only [Act.put, List.setIfInBounds_toArray, List.set_cons_zero, List.set_cons_succ]
        refine takeL (i := 2) (v := ?_) rfl (by kernel_rfl) (by kernel_rfl) (by kernel_rfl) (fun _ _ _ h => h) (Or.inl ⟨by rfl, ?_⟩) hHeld ?_
        rotate_left
        · rintro w' _; go_simp; try simp only [hwi, hwk, hti, htk, h0i, h0k, hi1pI, hk1qI, and_self, if_true]
          rfl
        try simp only [Act.put, List.setIfInBounds_toArray, List.set_cons_zero, List.set_cons_succ]
        refine takeL (i := 3) (v := .bool false) rfl (by kernel_rfl) (by kernel_rfl) (by kernel_rfl) (fun _ _ _ h => h) (Or.inl ⟨by rfl, ?_⟩) hHeld ?_
        · rintro w' _; go_simp; try rfl
        try simp only [Act.put, List.setIfInBounds_toArray, List.set_cons_zero, List.set_cons_succ]
        refine takeL (i := 4) (v := .bool false) rfl (by kernel_rfl) (by kernel_rfl) (by kernel_rfl) (fun _ _ _ h => h) (Or.inl ⟨by rfl, ?_⟩) hHeld ?_
        · rintro w' _; go_simp; try rfl
        try simp only [Act.put, List.setIfInBounds_toArray, List.set_cons_zero, List.set_cons_succ]
        refine takeL (i := 5) (v := ?_) rfl (by kernel_rfl) (by kernel_rfl) (by kernel_rfl) (fun _ _ _ h => h) (Or.inl ⟨by kernel_rfl, ?_⟩) hHeld ?_
        rotate_left
        · rintro w' _; go_simp; try simp only [hwi, hwk, hti, htk, h0i, h0k, hi1pI, hk1qI, and_self, if_true]
          rfl
        try simp only [Act.put, List.setIfInBounds_toArray, List.set_cons_zero, List.set_cons_succ]
        refine takeL (i := 6) (v := ?_) rfl (by kernel_rfl) (by kernel_rfl) (by kernel_rfl) (fun _ _ _ h => h) (Or.inl ⟨by kernel_rfl, ?_⟩) hHeld ?_
        rotate_left
        · rintro w' _; go_simp; try simp only [hwi, hwk, hti, htk, h0i, h0k, hi1pI, hk1qI, and_self, if_true]
          rfl
        try simp only [Act.put, List.setIfInBounds_toArray, List.set_cons_zero, List.set_cons_succ]
        refine takeL (i := 7) (v := ?_) rfl (by kernel_rfl) (by kernel_rfl) (by kernel_rfl) (fun _ _ _ h => h) (Or.inl ⟨by kernel_rfl, ?_⟩) hHeld ?_
        rotate_left
        · rintro w' _; go_simp; try simp only [hwi, hwk, hti, htk, h0i, h0k, hi1pI, hk1qI, and_self, if_true]
          rfl
        try simp only [Act.put, List.setIfInBounds_toArray, List.set_cons_zero, List.set_cons_succ]
        refine takeL (i := 8) (v := .bool false) rfl (by kernel_rfl) (by kernel_rfl) (by kernel_rfl) (fun _ _ _ h => h) (Or.inl ⟨by kernel_rfl, ?_⟩) hHeld ?_
        · rintro w' _; go_simp; try rfl
        try simp only [Act.put, List.setIfInBounds_toArray, List.set_cons_zero, List.set_cons_succ]
        refine takeL (i := 9) (v := .bool false) rfl (by kernel_rfl) (by kernel_rfl) (by kernel_rfl) (fun _ _ _ h => h) (Or.inl ⟨by kernel_rfl, ?_⟩) hHeld ?_
        · rintro w' _; go_simp; try rfl
        try simp only [Act.put, List.setIfInBounds_toArray, List.set_cons_zero, List.set_cons_succ]
        refine takeL (i := 10) (v := undef) rfl (by kernel_rfl) (by kernel_rfl) (by kernel_rfl) (fun _ _ _ h => h) (Or.inr ⟨by kernel_rfl, rfl⟩) hHeld ?_
        try simp only [Act.put, List.setIfInBounds_toArray, List.set_cons_zero, List.set_cons_succ]
        refine takeL (i := 11) (v := undef) rfl (by kernel_rfl) (by kernel_rfl) (by kernel_rfl) (fun _ _ _ h => h) (Or.inr ⟨by kernel_rfl, rfl⟩) hHeld ?_
        try simp only [Act.put, List.setIfInBounds_toArray, List.set_cons_zero, List.set_cons_succ]
        refine takeL (i := 12) (v := undef) rfl (by kernel_rfl) (by kernel_rfl) (by kernel_rfl) (fun _ _ _ h => h) (Or.inr ⟨by kernel_rfl, rfl⟩) hHeld ?_
        try simp only [Act.put, List.setIfInBounds_toArray, List.set_cons_zero, List.set_cons_succ]
        refine takeL (i := 13) (v := undef) rfl (by kernel_rfl) (by kernel_rfl) (by kernel_rfl) (fun _ _ _ h => h) (Or.inr ⟨by kernel_rfl, rfl⟩) hHeld ?_
        try simp only [Act.put, List.setIfInBounds_toArray, List.set_cons_zero, List.set_cons_succ]
        refine takeL (i := 14) (v := undef) rfl (by kernel_rfl) (by kernel_rfl) (by kernel_rfl) (fun _ _ _ h => h) (Or.inr ⟨by kernel_rfl, rfl⟩) hHeld ?_
        try simp only [Act.put, List.setIfInBounds_toArray, List.set_cons_zero, List.set_cons_succ]
        refine takeL (i := 15) (v := undef) rfl (by kernel_rfl) (by kernel_rfl) (by kernel_rfl) (fun _ _ _ h => h) (Or.inr ⟨by kernel_rfl, rfl⟩) hHeld ?_
        try simp only [Act.put, List.setIfInBounds_toArray, List.set_cons_zero, List.set_cons_succ]
        refine takeL (i := 16) (v := undef) rfl (by kernel_rfl) (by kernel_rfl) (by kernel_rfl) (fun _ _ _ h => h) (Or.inr ⟨by kernel_rfl, rfl⟩) hHeld ?_
        try simp only [Act.put, List.setIfInBounds_toArray, List.set_cons_zero, List.set_cons_succ]
        refine takeL (i := 17) (v := undef) rfl (by kernel_rfl) (by kernel_rfl) (by kernel_rfl) (fun _ _ _ h => h) (Or.inr ⟨by kernel_rfl, rfl⟩) hHeld ?_
        try simp only [Act.put, List.setIfInBounds_toArray, List.set_cons_zero, List.set_cons_succ]
        refine takeL (i := 18) (v := undef) rfl (by kernel_rfl) (by kernel_rfl) (by kernel_rfl) (fun _ _ _ h => h) (Or.inr ⟨by kernel_rfl, rfl⟩) hHeld ?_
        try simp only [Act.put, List.setIfInBounds_toArray, List.set_cons_zero, List.set_cons_succ]
        refine takeL (i := 19) (v := undef) rfl (by kernel_rfl) (by kernel_rfl) (by kernel_rfl) (fun _ _ _ h => h) (Or.inr ⟨by kernel_rfl, rfl⟩) hHeld ?_
        try simp only [Act.put, List.setIfInBounds_toArray, List.set_cons_zero, List.set_cons_succ]
        refine takeL (i := 20) (v := undef) rfl (by kernel_rfl) (by kernel_rfl) (by kernel_rfl) (fun _ _ _ h => h) (Or.inr ⟨by kernel_rfl, rfl⟩) hHeld ?_
        try simp only [Act.put, List.setIfInBounds_toArray, List.set_cons_zero, List.set_cons_succ]
        refine takeL (i := 21) (v := undef) rfl (by kernel_rfl) (by kernel_rfl) (by kernel_rfl) (fun _ _ _ h => h) (Or.inr ⟨by kernel_rfl, rfl⟩) hHeld ?_
        try simp only [Act.put, List.setIfInBounds_toArray, List.set_cons_zero, List.set_cons_succ]
        refine takeL (i := 22) (v := undef) rfl (by kernel_rfl) (by kernel_rfl) (by kernel_rfl) (fun _ _ _ h => h) (Or.inr ⟨by kernel_rfl, rfl⟩) hHeld ?_
        try simp only [Act.put, List.setIfInBounds_toArray, List.set_cons_zero, List.set_cons_succ]
        refine takeL (i := 23) (v := undef) rfl (by kernel_rfl) (by kernel_rfl) (by kernel_rfl) (fun _ _ _ h => h) (Or.inr ⟨by kernel_rfl, rfl⟩) hHeld ?_
        try simp only [Act.put, List.setIfInBounds_toArray, List.set_cons_zero, List.set_cons_succ]
        refine takeL (i := 24) (v := undef) rfl (by kernel_rfl) (by kernel_rfl) (by kernel_rfl) (fun _ _ _ h => h) (Or.inr ⟨by kernel_rfl, rfl⟩) hHeld ?_
        try simp only [Act.put, List.setIfInBounds_toArray, List.set_cons_zero, List.set_cons_succ]
        refine takeL (i := 25) (v := undef) rfl (by kernel_rfl) (by kernel_rfl) (by kernel_rfl) (fun _ _ _ h => h) (Or.inr ⟨by kernel_rfl, rfl⟩) hHeld ?_
        try simp only [Act.put, List.setIfInBounds_toArray, List.set_cons_zero, List.set_cons_succ]
        refine takeL (i := 26) (v := undef) rfl (by kernel_rfl) (by kernel_rfl) (by kernel_rfl) (fun _ _ _ h => h) (Or.inr ⟨by kernel_rfl, rfl⟩) hHeld ?_
        try simp only [Act.put, List.setIfInBounds_toArray, List.set_cons_zero, List.set_cons_succ]
        refine takeL (i := 27) (v := .bool false) rfl (by kernel_rfl) (by kernel_rfl) (by kernel_rfl) (fun _ _ _ h => h) (Or.inl ⟨by kernel_rfl, ?_⟩) hHeld ?_
        · rintro w' _; go_simp; try rfl
        try simp only [Act.put, List.setIfInBounds_toArray, List.set_cons_zero, List.set_cons_succ]
        refine takeL (i := 28) (v := .bool false) rfl (by kernel_rfl) (by kernel_rfl) (by kernel_rfl) (fun _ _ _ h => h) (Or.inl ⟨by rfl, ?_⟩) hHeld ?_
        · rintro w' _; go_simp; try rfl
        try simp only [Act.put, List.setIfInBounds_toArray, List.set_cons_zero, List.set_cons_succ]
        refine takeL (i := 29) (v := .bool false) rfl (by kernel_rfl) (by kernel_rfl) (by kernel_rfl) (fun _ _ _ h => h) (Or.inl ⟨by rfl, ?_⟩) hHeld ?_
        · rintro w' _; go_simp; try rfl
        try simp only [Act.put, List.setIfInBounds_toArray, List.set_cons_zero, List.set_cons_succ]
        refine wpAnyH_done (by kernel_rfl) ?_ _
        clear hHeld
        have hcc := HCY.out we HBE2.out.below
        have HED2 : Hid ((L ++ [(2, y)]) ++ ed (A.drop (i)) (B.drop (k + 1)) = E) := hid (by
          have h9 := HED.out
          rw [ed_next_start A B i k (by rw [HN.out]; omega) (by rw [HM.out]; exact hkm), HY.out] at h9
          rw [List.append_assoc]
          exact h9)
        go_wp2_with (first
          | refine wpList_bS rfl 23 1 _ rfl (.agg #[.int .i64 2, .string BY]) _ rfl (HD2.out _) ?_
          | (refine app_edK und26 Tryz.info43 HBE2.out hLl hl4 2 y 2 rfl BY HBY.out rfl _ _ rfl rfl rfl ?_; intro a' c' w' HB')
          | fail)
        go_roundg ((n - (i)) + (m - (k + 1)))
        case measure => omega
        case rel => exact ⟨i, k + 1, l + 1, L ++ [(2, y)], a', c', rfl, by go_num, by go_num, by simp [hLl], by omega, by omega, rfl, HB', HED2⟩
      · have hkmI : ¬ (k : Int) < (m : Int) := by omega
        have HLE : Hid (L = E) := hid (by
          have h9 := HED.out
          rw [List.drop_of_length_le (by rw [HN.out]; omega), List.drop_of_length_le (by rw [HM.out]; omega), ed_nil, List.append_nil] at h9
          exact h9)
        go_wp2
        go_ret
        refine ⟨_, rfl, ?_⟩
        rw [← HLE.out]
        have hbE := HBE.out
        refine ⟨by rw [HG.out]; exact HBW.out _ hbE.below, base_mono hbE.own (by rw [HG.out]; exact hgR), ?_⟩
        have := (HBW.out _ hbE.below).size
        exact this
end Go.Proofs.YtmpjapcijjjlbaaGreatDoor
