import Derived.Test.YtikmbjfambjmaaaGreatDoorMf23
import Derived.Test.YtikmbjfambjmaaaGreatDoorMf12
import Derived.Test.YtikmbjfambjmaaaGreatDoorMf21
import Derived.Test.YtikmbjfambjmaaaGreatDoorMf22
namespace Go.Proofs.YtikmbjfambjmaaaGreatDoor.Gr
open Go.RowKit
set_option linter.unusedVariables false
set_option linter.unusedSimpArgs false
def Rise (l : List Fe) : Prop := l.Pairwise (fun a b => a.path < b.path)
theorem Rise.at {l : List Fe} (h : Rise l) {i j : Nat} (hij : i < j) (hj : j < l.length) : (l.getD i f0).path < (l.getD j f0).path := by
  have := List.pairwise_iff_getElem.1 h i j (by omega) hj hij
  rw [List.getD_eq_getElem?_getD, List.getD_eq_getElem?_getD, List.getElem?_eq_getElem hj, List.getElem?_eq_getElem (by omega)]
  exact this
theorem elem41 : Tryz.prog.underlying 41 = some (.slice (Tryz.prog.elem 41)) := by kernel_rfl
theorem sizeF (w : World) : (sizeOf (Tryz.prog.elem 41)).run Tryz.prog w = .ok 24 w := by kernel_rfl
theorem sl41_to (a : Option Addr) (n cap j : Nat) (h : j ≤ cap) (w : World) : (Instr.slice 41 (.slice a n cap) none (some (.int .i64 j)) none).run Tryz.prog w = .ok (.slice a j cap) w := by
  rw [run_slice_h w 41 a n cap elem41 .i64 j (by omega) (by omega), sizeF, Result.andThen_ok, sliced]
  congr 2
  split
  · rfl
  · cases a with
    | none => rfl
    | some p => obtain ⟨b, o, f⟩ := p; simp [Addr.add]
def adF (a : Option Addr) (cap n : Nat) : Option Addr := if cap = n then a else a.map (·.add (n * 24))
theorem adF_none {a : Option Addr} {cap n : Nat} (h : adF a cap n = none) : a = none := by
  unfold adF at h
  split at h
  · exact h
  · cases a with
    | none => rfl
    | some p => simp at h
theorem sl41_end (a : Option Addr) (n cap : Nat) (w : World) : (Instr.slice 41 (.slice a n cap) (some (.int .i64 n)) none none).run Tryz.prog w = .ok (.slice (adF a cap n) 0 (cap - n)) w := by
  rw [run_slice_l w 41 a n cap elem41 .i64 n (by omega) (by omega), sizeF, Result.andThen_ok, sliced]
  simp only [Int.toNat_natCast, Nat.sub_self]
  rfl
theorem base_up {w : World} {B B' : Nat} {e : TypeId} {s : Nat} {v : Value} {n : Nat} {xs : List Value} (h : w.ownsRow B' e s v n xs) (hB : B ≤ B') : w.ownsRow B e s v n xs := by
  obtain ⟨hl, h1 | ⟨g, c, cur, h1, h2, h3⟩⟩ := h
  · exact ⟨hl, .inl h1⟩
  · exact ⟨hl, .inr ⟨g, c, cur, h1, Nat.le_trans hB h2, h3⟩⟩
structure Qk (b1 o1 b o : Nat) (Y X : ByteArray) (W : World) : Prop where
  c0 : W.cell? ⟨b1, o1, none⟩ = some (.string Y)
  d0 : W.cell? ⟨b, o, none⟩ = some (.string X)
theorem wpList_bSF {P : Program} {ops : Array Oper} {rest : List Oper} {o : Oper} {a : Act} {w w' : World} {Q : Exit → Act → World → Prop} (hg : o.guard = none) (t len : Nat) (x : Operand) (ho : o.op = .buildSlice t len #[(0, x)]) (u v : Value) (hx : a.eval x = u) (hr : (Instr.buildSlice t len #[(0, u)]).run P w = .ok v w') (h : wpList P ops Q rest (a.put o.dst v) w') : wpList P ops Q (o :: rest) a w := by
  refine wpList_plain hg fun K hK => ?_
  unfold Oper.wp
  rw [exec_bS1 t len x ho u v hx hr]
  exact hK _ _ h
set_option maxRecDepth 20000 in
set_option maxHeartbeats 8000000 in
theorem sorted16 (a : Option Addr) (cap : Nat) (l : List Fe) (hl : IdF l) (hn : l.length ≤ 2000) (hR : Rise l) (w : World) (hP : Px encF 24 f0 w a cap l) :
    Calls Tryz.prog 16 #[.slice a l.length cap] w fun e w' => ∃ v, e = .returned v ∧ Bx encF 24 64 w w' w.heap.size v l := by
  obtain ⟨n, HN⟩ : ∃ n, Hid (l.length = n) := ⟨_, rfl⟩
  obtain ⟨G, HG⟩ : ∃ G, Hid (w.heap.size = G) := ⟨_, rfl⟩
  have hnn : n ≤ 2000 := by rw [← HN.out]; exact hn
  have HPA : Hid (∀ W, Below G w W → Px encF 24 f0 W a cap l) := fun W hW => hP.below (by rw [HG.out]; exact hW)
  have HPL : Hid (0 < n → ∃ b off, a = some ⟨b, off, none⟩) := fun h0 => by
    obtain ⟨b, off, e1, e2, _⟩ := hP.at_ (by rw [HN.out]; exact h0)
    exact ⟨b, off, e1⟩
  have HIF : Hid (IdF l) := hl
  have HRI : Hid (Rise l) := hR
  have HE0 : Hid (Bx encF 24 64 w w G (.slice none 0 0) (l.take 0)) := hid (bx_nil 64 w G (by rw [HG.out]; exact Nat.le_refl _))
  rw [HN.out]
  clear hP hl hR
  go_enter Tryz.func16, Tryz.ntmps16
  go_wp2_with fail
  go_loopg [3, 4] n (fun g u iv wr => ∃ (i : Nat) (v : Value), v = u ∧ i ≤ n ∧ g = n - i ∧ iv = .int .i64 i ∧ Hid (Bx encF 24 64 w wr G v (l.take i)))
  case atStart => exact ⟨0, _, rfl, Nat.zero_le _, rfl, rfl, HE0⟩
  case round =>
    obtain ⟨i, v, hv, hi, hk, rfl, HBE⟩ := hrel
    subst hv
    by_cases hlt : i < n
    · have hlti : (i : Int) < (n : Int) := by omega
      obtain ⟨L, HL⟩ : ∃ L, Hid (l.take i = L) := ⟨_, rfl⟩
      have HLL : Hid (L.length = i) := hid (by rw [← HL.out, List.length_take, HN.out]; omega)
      have HLW : Hid (IdF L) := hid (by rw [← HL.out]; exact fun y hy => HIF.out y (List.mem_of_mem_take hy))
      rw [HL.out] at HBE
      obtain ⟨va, vc, hv⟩ : ∃ va vc, v = .slice va i vc := by
        have ho := HBE.out.own
        rw [HLL.out] at ho
        exact owns_shape ho
      subst hv
      have HPV : Hid (∀ W, Bx encF 24 64 w W G (.slice va i vc) L → Px encF 24 f0 W va vc L) := fun W hW => by
        obtain ⟨a', c', e1, e2, _⟩ := hW.px (d := f0) HLW.out.len
        cases e1
        exact e2
      obtain ⟨b, off, hae⟩ := HPL.out (by omega)
      subst hae
      obtain ⟨x, HXX⟩ : ∃ x, Hid (l.getD i f0 = x) := ⟨_, rfl⟩
      have hil : i < l.length := by rw [HN.out]; exact hlt
      have hxm : x ∈ l := by rw [← HXX.out]; exact getD_mem l i f0 hil
      have HX20 : Hid (IdF [x]) := hid (fun f hf => by have : f = x := by simpa using hf
                                                       rw [this]; exact HIF.out x hxm)
      obtain ⟨R, HR⟩ : ∃ R : List Value, Hid (encF x = R) := ⟨_, rfl⟩
      have HRR : Hid (∀ W, Below G w W → W.rangeAt b (off + i * 24) R) := fun W hW => by
        obtain ⟨b', off', e1, _, e3⟩ := (HPA.out W hW).at_ (by omega)
        cases e1
        have := e3 i hil
        rw [HXX.out, HR.out] at this
        exact this
      have hi64 : (Tryz.prog.info? 64).map (·.size) = some R.length := by
        obtain ⟨ii, h1, _, h2, _⟩ := info_parts info64
        rw [← HR.out, encF_len (HIF.out x hxm).1, h1]
        simp [h2]
      obtain ⟨KX, HKX⟩ : ∃ S : ByteArray, Hid ((⟨x.path.toArray⟩ : ByteArray) = S) := ⟨_, rfl⟩
      have HTS : Hid (l.take (i + 1) = L ++ [x]) := hid (by rw [take_snocG f0 l i hil, HL.out, HXX.out])
      have HLE : Hid (∀ j, j < i → (L.getD j f0).path < x.path) := hid (fun j hj => by
        have h1 : L.getD j f0 = l.getD j f0 := by
          rw [← HL.out, List.getD_eq_getElem?_getD, List.getD_eq_getElem?_getD, List.getElem?_take, if_pos hj]
        rw [h1, ← HXX.out]
        exact HRI.out.at hj hil)
      have hcapi : i ≤ vc := by have := (HPV.out _ HBE.out).capl; rw [HLL.out] at this; exact this
      clear hxm hil
      go_wp2_with fail
      go_loopg [5] i (fun g jv wq => ∃ j : Nat, j ≤ i ∧ g = i - j ∧ jv = .int .i64 j ∧ Hid (Bx encF 24 64 w wq G (.slice va i vc) L))
      case atStart => exact ⟨0, Nat.zero_le _, rfl, rfl, HBE⟩
      case round =>
        obtain ⟨j, hj, hkj, rfl, HBQ⟩ := hrel
        by_cases hji : j < i
        · have hjii : (j : Int) < (i : Int) := by omega
          obtain ⟨b1, off1, hva⟩ : ∃ b1 off1, va = some ⟨b1, off1, none⟩ := by
            obtain ⟨b1, off1, e1, e2, _⟩ := (HPV.out _ HBQ.out).at_ (by rw [HLL.out]; omega)
            exact ⟨b1, off1, e1⟩
          subst hva
          obtain ⟨y, HY⟩ : ∃ y, Hid (L.getD j f0 = y) := ⟨_, rfl⟩
          obtain ⟨KY, HKY⟩ : ∃ S : ByteArray, Hid ((⟨y.path.toArray⟩ : ByteArray) = S) := ⟨_, rfl⟩
          have HBQ0 : Hid (Bx encF 24 64 w wr.drew G (.slice (some ⟨b1, off1, none⟩) i vc) L) := hid (HBQ.out.carry (below_drewH (Below.refl _ _) 1))
          have HQ0 : Qk b1 (off1 + j * 24) b (off + i * 24) KY KX wr.drew := ⟨by
              obtain ⟨b', o', e1, _, e3⟩ := (HPV.out _ HBQ0.out).at_ (by rw [HLL.out]; omega)
              cases e1
              have := e3 j (by rw [HLL.out]; exact hji) 0 (.string KY) (by rw [HY.out, ← HKY.out]; rfl)
              exact this, by
              have := HRR.out _ HBQ0.out.below 0 (.string KX) (by rw [← HR.out, ← HKX.out]; rfl)
              exact this⟩
          have hbl : Op.bytesLess KY.toList KX.toList = true := by
            letI i1 : Inhabited Er := ⟨⟨0, [], []⟩⟩
            haveI i2 : Inhabited En := ⟨⟨⟨0, [], z20⟩, by decide, by decide⟩⟩
            have h := HLE.out j hji
            rw [HY.out] at h
            rw [← HKX.out, ← HKY.out, Lib.toList_data, Lib.toList_data, bl_lt]
            exact decide_eq_true h
          go_wp2_with fail
          refine wp_region_held_drew (S := Qk b1 (off1 + j * 24) b (off + i * 24) KY KX) (by kernel_rfl) HQ0 (fun hHeld => ?_)
          generalize wr.drew = u0 at hHeld HBQ0 ⊢
          clear HQ0 HBQ
          refine takeY (i := 0) (v := ?_) hHeld ?_ ?_
          rotate_left
          · rintro w' ⟨c0, d0⟩; go_simp; rfl
          try simp only [Act.put, sL]
          refine takeY (i := 1) (v := ?_) hHeld ?_ ?_
          rotate_left
          · rintro w' ⟨c0, d0⟩; go_simp; rfl
          try simp only [Act.put, sL]
          refine takeY (i := 2) (v := ?_) hHeld ?_ ?_
          rotate_left
          · rintro w' ⟨c0, d0⟩; go_simp; rfl
          try simp only [Act.put, sL]
          refine takeY (i := 3) (v := .bool true) hHeld ?_ ?_
          · rintro w' ⟨c0, d0⟩; go_simp; try rfl
          try simp only [Act.put, sL]
          refine takeY (i := 4) (v := ?_) hHeld ?_ ?_
          rotate_left
          · rintro w' ⟨c0, d0⟩; go_simp; rfl
          try simp only [Act.put, sL]
          refine takeG (i := 5) (v := ?_) hHeld ?_ ?_
          rotate_left
          · rintro w' ⟨c0, d0⟩; go_simp; rfl
          try simp only [Act.put, sL]
          refine takeG (i := 6) (v := ?_) hHeld ?_ ?_
          rotate_left
          · rintro w' ⟨c0, d0⟩; go_simp; rfl
          try simp only [Act.put, sL]
          refine takeG (i := 7) (v := ?_) hHeld ?_ ?_
          rotate_left
          · rintro w' ⟨c0, d0⟩; go_simp; rfl
          try simp only [Act.put, sL]
          refine takeG (i := 8) (v := ?_) hHeld ?_ ?_
          rotate_left
          · rintro w' ⟨c0, d0⟩; go_simp; rfl
          try simp only [Act.put, sL]
          refine takeG (i := 9) (v := ?_) hHeld ?_ ?_
          rotate_left
          · rintro w' ⟨c0, d0⟩; go_simp; rfl
          try simp only [Act.put, sL]
          refine takeG (i := 10) (v := ?_) hHeld ?_ ?_
          rotate_left
          · rintro w' ⟨c0, d0⟩; go_simp; rfl
          try simp only [Act.put, sL]
          refine takeG (i := 11) (v := ?_) hHeld ?_ ?_
          rotate_left
          · rintro w' ⟨c0, d0⟩; go_simp; rfl
          try simp only [Act.put, sL]
          refine takeG (i := 12) (v := ?_) hHeld ?_ ?_
          rotate_left
          · rintro w' ⟨c0, d0⟩; go_simp; rfl
          try simp only [Act.put, sL]
          refine takeG (i := 13) (v := ?_) hHeld ?_ ?_
          rotate_left
          · rintro w' ⟨c0, d0⟩; go_simp; rfl
          try simp only [Act.put, sL]
          refine takeG (i := 14) (v := ?_) hHeld ?_ ?_
          rotate_left
          · rintro w' ⟨c0, d0⟩; go_simp; rfl
          try simp only [Act.put, sL]
          refine takeG (i := 15) (v := .bool true) hHeld ?_ ?_
          · rintro w' ⟨c0, d0⟩; go_simp; try rfl
          try simp only [Act.put, sL]
          refine takeG (i := 16) (v := ?_) hHeld ?_ ?_
          rotate_left
          · rintro w' ⟨c0, d0⟩; go_simp; rfl
          try simp only [Act.put, sL]
          refine takeN (i := 17) hHeld ?_
          try simp only [Act.put, sL]
          refine takeN (i := 18) hHeld ?_
          try simp only [Act.put, sL]
          refine takeN (i := 19) hHeld ?_
          try simp only [Act.put, sL]
          refine takeN (i := 20) hHeld ?_
          try simp only [Act.put, sL]
          refine takeN (i := 21) hHeld ?_
          try simp only [Act.put, sL]
          refine takeN (i := 22) hHeld ?_
          try simp only [Act.put, sL]
          refine takeN (i := 23) hHeld ?_
          try simp only [Act.put, sL]
          refine takeN (i := 24) hHeld ?_
          try simp only [Act.put, sL]
          refine takeN (i := 25) hHeld ?_
          try simp only [Act.put, sL]
          refine takeN (i := 26) hHeld ?_
          try simp only [Act.put, sL]
          refine takeN (i := 27) hHeld ?_
          try simp only [Act.put, sL]
          refine takeN (i := 28) hHeld ?_
          try simp only [Act.put, sL]
          refine takeN (i := 29) hHeld ?_
          try simp only [Act.put, sL]
          refine takeN (i := 30) hHeld ?_
          try simp only [Act.put, sL]
          refine takeN (i := 31) hHeld ?_
          try simp only [Act.put, sL]
          refine takeN (i := 32) hHeld ?_
          try simp only [Act.put, sL]
          refine takeN (i := 33) hHeld ?_
          try simp only [Act.put, sL]
          refine takeN (i := 34) hHeld ?_
          try simp only [Act.put, sL]
          refine takeN (i := 35) hHeld ?_
          try simp only [Act.put, sL]
          refine takeN (i := 36) hHeld ?_
          try simp only [Act.put, sL]
          refine takeN (i := 37) hHeld ?_
          try simp only [Act.put, sL]
          refine takeN (i := 38) hHeld ?_
          try simp only [Act.put, sL]
          refine takeN (i := 39) hHeld ?_
          try simp only [Act.put, sL]
          refine takeN (i := 40) hHeld ?_
          try simp only [Act.put, sL]
          refine takeG (i := 41) (v := .bool true) hHeld ?_ ?_
          · rintro w' ⟨c0, d0⟩; go_simp; try rfl
          try simp only [Act.put, sL]
          refine takeY (i := 42) (v := .bool true) hHeld ?_ ?_
          · rintro w' ⟨c0, d0⟩; go_simp; try rfl
          try simp only [Act.put, sL]
          refine wpAnyH_done (by kernel_rfl) ?_ _
          clear hHeld
          go_wp2
          go_roundg (i - (j + 1))
          case measure => omega
          case rel => exact ⟨j + 1, by omega, rfl, by go_num, HBQ0⟩
        · have hjii : ¬ (j : Int) < (i : Int) := by omega
          obtain rfl : j = i := by omega
          have HBQ0 : Hid (Bx encF 24 64 w wr.drew G (.slice va j vc) L) := hid (HBQ.out.carry (below_drewH (Below.refl _ _) 1))
          go_wp2_with fail
          refine wp_region_held_drew (S := fun _ => True) (by kernel_rfl) trivial (fun hHeld => ?_)
          generalize wr.drew = u0 at hHeld HBQ0 ⊢
          clear HBQ
          refine takeY (i := 0) (v := ?_) hHeld ?_ ?_
          rotate_left
          · rintro w' _; go_simp; rfl
          try simp only [Act.put, sL]
          refine takeY (i := 1) (v := ?_) hHeld ?_ ?_
          rotate_left
          · rintro w' _; go_simp; rfl
          try simp only [Act.put, sL]
          refine takeY (i := 2) (v := ?_) hHeld ?_ ?_
          rotate_left
          · rintro w' _; go_simp; rfl
          try simp only [Act.put, sL]
          refine takeY (i := 3) (v := .bool false) hHeld ?_ ?_
          · rintro w' _; go_simp; try rfl
          try simp only [Act.put, sL]
          refine takeY (i := 4) (v := ?_) hHeld ?_ ?_
          rotate_left
          · rintro w' _; go_simp; rfl
          try simp only [Act.put, sL]
          refine takeN (i := 5) hHeld ?_
          try simp only [Act.put, sL]
          refine takeN (i := 6) hHeld ?_
          try simp only [Act.put, sL]
          refine takeN (i := 7) hHeld ?_
          try simp only [Act.put, sL]
          refine takeN (i := 8) hHeld ?_
          try simp only [Act.put, sL]
          refine takeN (i := 9) hHeld ?_
          try simp only [Act.put, sL]
          refine takeN (i := 10) hHeld ?_
          try simp only [Act.put, sL]
          refine takeN (i := 11) hHeld ?_
          try simp only [Act.put, sL]
          refine takeN (i := 12) hHeld ?_
          try simp only [Act.put, sL]
          refine takeN (i := 13) hHeld ?_
          try simp only [Act.put, sL]
          refine takeN (i := 14) hHeld ?_
          try simp only [Act.put, sL]
          refine takeN (i := 15) hHeld ?_
          try simp only [Act.put, sL]
          refine takeN (i := 16) hHeld ?_
          try simp only [Act.put, sL]
          refine takeN (i := 17) hHeld ?_
          try simp only [Act.put, sL]
          refine takeN (i := 18) hHeld ?_
          try simp only [Act.put, sL]
          refine takeN (i := 19) hHeld ?_
          try simp only [Act.put, sL]
          refine takeN (i := 20) hHeld ?_
          try simp only [Act.put, sL]
          refine takeN (i := 21) hHeld ?_
          try simp only [Act.put, sL]
          refine takeN (i := 22) hHeld ?_
          try simp only [Act.put, sL]
          refine takeN (i := 23) hHeld ?_
          try simp only [Act.put, sL]
          refine takeN (i := 24) hHeld ?_
          try simp only [Act.put, sL]
          refine takeN (i := 25) hHeld ?_
          try simp only [Act.put, sL]
          refine takeN (i := 26) hHeld ?_
          try simp only [Act.put, sL]
          refine takeN (i := 27) hHeld ?_
          try simp only [Act.put, sL]
          refine takeN (i := 28) hHeld ?_
          try simp only [Act.put, sL]
          refine takeN (i := 29) hHeld ?_
          try simp only [Act.put, sL]
          refine takeN (i := 30) hHeld ?_
          try simp only [Act.put, sL]
          refine takeN (i := 31) hHeld ?_
          try simp only [Act.put, sL]
          refine takeN (i := 32) hHeld ?_
          try simp only [Act.put, sL]
          refine takeN (i := 33) hHeld ?_
          try simp only [Act.put, sL]
          refine takeN (i := 34) hHeld ?_
          try simp only [Act.put, sL]
          refine takeN (i := 35) hHeld ?_
          try simp only [Act.put, sL]
          refine takeN (i := 36) hHeld ?_
          try simp only [Act.put, sL]
          refine takeN (i := 37) hHeld ?_
          try simp only [Act.put, sL]
          refine takeN (i := 38) hHeld ?_
          try simp only [Act.put, sL]
          refine takeN (i := 39) hHeld ?_
          try simp only [Act.put, sL]
          refine takeN (i := 40) hHeld ?_
          try simp only [Act.put, sL]
          refine takeN (i := 41) hHeld ?_
          try simp only [Act.put, sL]
          refine takeY (i := 42) (v := .bool false) hHeld ?_ ?_
          · rintro w' _; go_simp; try rfl
          try simp only [Act.put, sL]
          refine wpAnyH_done (by kernel_rfl) ?_ _
          clear hHeld
          obtain ⟨B2, HB2⟩ : ∃ B, Hid (u0.heap.size = B) := ⟨_, rfl⟩
          have hGB2 : G ≤ B2 := by rw [← HB2.out]; exact HBQ0.out.le
          have HPQ : Hid (∀ W', Below B2 u0 W' → Px encF 24 f0 W' va vc L) := fun W' hW' => (HPV.out _ HBQ0.out).below (by rw [HB2.out]; exact hW')
          have HPX : Hid (∀ W', Below B2 u0 W' → W'.rangeAt b (off + j * 24) R) := fun W' hW' => HRR.out W' (HBQ0.out.below.trans (hW'.mono hGB2))
          have hsl1 : ∀ W', (Instr.slice 41 (.slice va j vc) none (some (.int .i64 j)) none).run Tryz.prog W' = .ok (.slice va j vc) W' := fun W' => sl41_to va j vc j hcapi W'
          obtain ⟨a3, HA3⟩ : ∃ a, Hid (adF va vc j = a) := ⟨_, rfl⟩
          obtain ⟨c3, HC3⟩ : ∃ c, Hid (vc - j = c) := ⟨_, rfl⟩
          have hsl2 : ∀ W', (Instr.slice 41 (.slice va j vc) (some (.int .i64 j)) none none).run Tryz.prog W' = .ok (.slice a3 0 c3) W' := fun W' => by rw [← HA3.out, ← HC3.out]; exact sl41_end va j vc W'
          have HP3 : Hid (∀ W', Px encF 24 f0 W' a3 c3 []) := fun W' => ⟨Nat.zero_le _, fun h => by simp at h, fun h => by
            have := (HPV.out _ HBQ0.out).nil (adF_none (by rw [HA3.out]; exact h))
            rw [← HC3.out]
            omega⟩
          have HB0 : Hid (Bx encF 24 64 u0 u0 B2 (.slice none 0 0) []) := hid (bx_nil 64 u0 B2 (by rw [HB2.out]; exact Nat.le_refl _))
          go_wp2_with (first
            | (at_builtin; refine wpList_bx_slM (enc := encF) (k := 24) (d := f0) rfl _ _ 41 64 Tryz.underlying41 info64 rfl (by decide) (by decide) encF_one rfl B2 _ _ rfl HB0.out va vc L (by rw [HLL.out]; rfl) (HPQ.out _ (Below.refl _ _)) HLW.out.len (by rw [HLL.out]; simp; omega) ?_; intro v1 w1 hb1 hg1 hm1; have HBE1 : Hid (Bx encF 24 64 u0 w1 B2 v1 ([] ++ L)) := hb1; clear hb1 hg1 hm1; have RX : Hid (w1.rangeAt b (off + j * 24) R) := hid (HPX.out _ HBE1.out.below))
            | refine wpList_load_mid rfl 64 _ rfl b (off + j * 24) rfl R _ RX.out Tryz.underlying64 rfl hi64 ?_
            | refine wpList_bSF rfl 41 1 _ rfl (.agg R.toArray) _ rfl (by rw [← HR.out]; exact run_bs41 x (HX20.out x (by simp)).1 _) ?_
            | (at_builtin; refine wpList_bx_slM (enc := encF) (k := 24) (d := f0) rfl _ _ 41 64 Tryz.underlying41 info64 rfl (by decide) (by decide) encF_one rfl B2 _ _ rfl (HBE1.out.alloc _) (some ⟨w1.heap.size, 0, none⟩) 1 [x] rfl (px_oneF w1 x) HX20.out.len (by simp only [List.nil_append, HLL.out, List.length_cons, List.length_nil]; omega) ?_; intro v2 w2 hb2 hg2 hm2; have HBE2 : Hid (Bx encF 24 64 u0 w2 B2 v2 (([] ++ L) ++ [x])) := hb2; clear hb2 hg2 hm2)
            | (at_builtin; refine wpList_bx_slM (enc := encF) (k := 24) (d := f0) rfl _ _ 41 64 Tryz.underlying41 info64 rfl (by decide) (by decide) encF_one rfl B2 _ _ rfl HBE2.out a3 c3 [] rfl (HP3.out _) (fun y hy => by cases hy) (by simp only [List.nil_append, List.length_append, HLL.out, List.length_cons, List.length_nil]; omega) ?_; intro v3 w3 hb3 hg3 hm3; have HBE3 : Hid (Bx encF 24 64 u0 w3 B2 v3 ((([] ++ L) ++ [x]) ++ [])) := hb3; clear hb3 hg3 hm3)
            | fail)
          go_roundg (n - (j + 1))
          case measure => omega
          case rel =>
            refine ⟨j + 1, v3, rfl, by omega, rfl, by go_num, hid ?_⟩
            have h3 := HBE3.out
            rw [List.nil_append, List.append_nil, ← HTS.out] at h3
            exact ⟨HBQ0.out.below.trans (h3.below.mono hGB2), base_up h3.own hGB2, Nat.le_trans HBQ0.out.le (by rw [HB2.out]; exact h3.le)⟩
    · have hlti : ¬ (i : Int) < (n : Int) := by omega
      have HFN : Hid (Bx encF 24 64 w wr G v l) := hid (by have := HBE.out; rw [List.take_of_length_le (by rw [HN.out]; omega)] at this; exact this)
      go_wp2
      go_ret
      exact ⟨_, rfl, by rw [HG.out]; exact HFN.out⟩
end Go.Proofs.YtikmbjfambjmaaaGreatDoor.Gr
namespace Go.Proofs.YtikmbjfambjmaaaGreatDoor.Gr
open Go.RowKit
set_option linter.unusedVariables false
set_option linter.unusedSimpArgs false
def PostFd (its : List It) (w : World) (e : Ending) (w' : World) : Prop := Below w.heap.size w w' ∧ ∃ er fs, sc its [] = (er, fs) ∧ IdF fs ∧ fs.length ≤ 2000 ∧ ∃ ra rc, e = .returned (.tuple #[.slice ra fs.length rc, .int .i64 er]) ∧ Px encF 24 f0 w' ra rc fs
theorem rise_of {its : List It} {fs : List Fe} (h : its.Pairwise Lt2) (hs : sc its [] = (0, fs)) : Rise fs := by
  obtain ⟨h1, h2, _⟩ := sc_ok its [] (by rw [hs])
  rw [hs] at h1
  have e : fs = its.map (·.2) := by simpa using h1
  rw [e]
  unfold Rise
  rw [List.pairwise_map]
  exact h.imp_of_mem (fun {a b} ha hb hab => hab (h2 a ha) (h2 b hb))
set_option maxRecDepth 20000 in
set_option maxHeartbeats 4000000 in
theorem refFlat_any (os : List Oj) (a : Option Addr) (cap : Nat) (R : Nat → Option (List Er)) (hR : Rx os R) (lk : Lks) (hlk : Lk os R lk) (hfo : Fo lk) (w : World) (hO : Ot w a cap os) (hl2 : ∀ o ∈ os, o.zs.length ≤ 20000) (x : List Int) (hx : IdW x) :
    Calls Tryz.prog 8 #[idV x, .slice a os.length cap] w (PostFd (itm lk 102 x []) w) := by
  obtain ⟨n, HN⟩ : ∃ n, Hid (os.length = n) := ⟨_, rfl⟩
  obtain ⟨K, HK⟩ : ∃ K, Hid (w.heap.size = K) := ⟨_, rfl⟩
  obtain ⟨X, HX⟩ := rw_ hx.1
  have hiX := HX.out.i31
  obtain ⟨w1, HW1⟩ : ∃ u, Hid (w.alloc (.cells X.toArray 23) = u) := ⟨_, rfl⟩
  have HB1 : Hid (Below K w w1) := hid (by rw [← HK.out, ← HW1.out]; exact (Below.refl _ w).alloc (Nat.le_refl _) _)
  have R1 : Hid (w1.rangeAt K 0 X) := hid (by rw [← HK.out, ← HW1.out]; exact range_row (heap_alloc_new w _))
  obtain ⟨its, HIT⟩ : ∃ l, Hid (itm lk 102 x [] = l) := ⟨_, rfl⟩
  have HAS : Hid (its.Pairwise Lt2) := hid (by rw [← HIT.out]; exact itm_asc hfo 102 x [])
  obtain ⟨K1, HK1⟩ : ∃ K, Hid (w1.heap.size = K) := ⟨_, rfl⟩
  have hKK : K ≤ K1 := by rw [← HK1.out, ← HK.out]; exact HB1.out.size
  have C15 : Hid (Calls Tryz.prog 15 #[.agg X.toArray, .string ⟨#[]⟩, .slice a n cap, .slice none 0 0] w1 (PostW15 w1 K1 its [] w1 (.slice none 0 0))) := hid (by
    have := walk15_any w1 w1.heap.size a cap os R hR lk hlk hfo (ow_of (hO.below (by rw [HK.out]; exact HB1.out))) hO.few hl2 102 x hx [] (by decide) (by decide) (.slice none 0 0) [] w1 (bx_nil 64 w1 _ (Nat.le_refl _)) (fun f h => by cases h) (by decide)
    unfold idV at this
    rw [HX.out.e, HIT.out, HN.out, HK1.out] at this
    exact this)
  unfold idV
  rw [HX.out.e, HN.out, HIT.out]
  clear hR hlk hfo hO hl2 hx
  go_enter Tryz.func8, Tryz.ntmps8
  go_wp2_with (first | (rw [HW1.out, HK.out]; refine Hid.out ?_) | fail)
  refine hid ?_
  go_wp2_with (refine wpList_load_mid rfl 23 _ rfl K 0 rfl X _ R1.out Tryz.underlying23 rfl hiX ?_)
  refine C15.out.mono ?_
  rintro ev w2 ⟨er, v2, acc, rfl, hb2, hm2, hi2, hn2, h20, h21⟩
  have HB2 : Hid (Below K w w2) := hid (HB1.out.trans (hb2.below.mono hKK))
  obtain ⟨ra, rc, hve, hpx, _⟩ := hb2.px (d := f0) hi2.len
  subst hve
  by_cases her : er = 0
  · subst her
    have HSC : Hid (sc its [] = (0, acc)) := hid (by have := h20 rfl []; rw [List.append_nil] at this; exact this)
    have HRI : Hid (Rise acc) := hid (rise_of HAS.out HSC.out)
    have HIF : Hid (IdF acc) := hi2
    have HAL : Hid (acc.length ≤ 2000) := hn2
    obtain ⟨na, HNA⟩ : ∃ n, Hid (acc.length = n) := ⟨_, rfl⟩
    have C16 : Hid (Calls Tryz.prog 16 #[.slice ra na rc] w2 fun e w' => ∃ v, e = .returned v ∧ Bx encF 24 64 w2 w' w2.heap.size v acc) := hid (by
      have := sorted16 ra rc acc HIF.out HAL.out HRI.out w2 hpx
      rw [HNA.out] at this
      exact this)
    rw [HNA.out]
    have hK2 : Hid (K ≤ w2.heap.size) := hid (by rw [← HK.out]; exact HB2.out.size)
    clear hb2 hm2 hi2 hn2 h20 h21 hpx
    go_wp2_with fail
    refine C16.out.mono ?_
    rintro ev w3 ⟨v3, rfl, hb3⟩
    obtain ⟨ra3, rc3, hve, hpx3, _⟩ := hb3.px (d := f0) HIF.out.len
    subst hve
    have HFIN : Hid (PostFd its w (.returned (.tuple #[.slice ra3 acc.length rc3, .int .i64 0])) w3) := hid ⟨by rw [HK.out]; exact HB2.out.trans (hb3.below.mono hK2.out), 0, acc, HSC.out, HIF.out, HAL.out, ra3, rc3, rfl, hpx3⟩
    rw [HNA.out] at HFIN ⊢
    clear hb3 hpx3
    go_wp2
    go_ret2
    exact HFIN.out
  · have heb : (er == 0) = false := by rw [beq_eq_false_iff_ne]; exact her
    have HSC : Hid (sc its [] = (er, [])) := hid (by have := h21 her []; rw [List.append_nil] at this; exact this)
    have HFIN : Hid (PostFd its w (.returned (.tuple #[.slice none 0 0, .int .i64 er])) w2) := hid ⟨by rw [HK.out]; exact HB2.out, er, [], HSC.out, (fun f h => by cases h), by decide, none, 0, rfl, ⟨Nat.le_refl _, (fun h => by simp at h), fun _ => rfl⟩⟩
    clear hb2 hm2 hi2 hn2 h20 h21 hpx
    go_wp2
    go_ret2
    exact HFIN.out
end Go.Proofs.YtikmbjfambjmaaaGreatDoor.Gr
namespace Go.Proofs.YtikmbjfambjmaaaGreatDoor.Gr
open Go.RowKit
set_option linter.unusedVariables false
set_option linter.unusedSimpArgs false
theorem sc_err : ∀ (l : List It) (acc : List Fe), (sc l acc).1 ≠ 0 → (sc l acc).2 = []
  | [], acc, h => absurd rfl h
  | x :: l, acc, h => by
    rw [sc] at h ⊢
    by_cases h1 : x.1 = 0
    · rw [if_pos h1] at h ⊢
      by_cases h2 : 2000 ≤ acc.length
      · rw [if_pos h2]
      · rw [if_neg h2] at h ⊢; exact sc_err l _ h
    · rw [if_neg h1]
theorem rx_of {w : World} {a : Option Addr} {cap : Nat} {os : List Oj} (hO : Ot w a cap os) (hl2 : ∀ o ∈ os, o.zs.length ≤ 20000) (hT : Tb w) : ∃ R, Rx os R := by
  have h : ∀ i, ∃ r : Option (List Er), (i < os.length → (os.getD i dO).k = 2 → Rt (Lib.bytesOf (os.getD i dO).zs) r) ∧ (∀ es, r = some es → es.length ≤ 1000) := fun i => by
    by_cases hi : i < os.length
    · have hm := getD_mem os i dO hi
      letI i1 : Inhabited Er := ⟨⟨0, [], []⟩⟩
      haveI i2 : Inhabited En := ⟨⟨⟨0, [], z20⟩, by decide, by decide⟩⟩
      obtain ⟨_, _, _, ⟨_, a', c', es, h1, h2, h3, h4, h5, h6⟩, _⟩ := readTree_any (os.getD i dO).a (os.getD i dO).cap (os.getD i dO).zs (hl2 _ hm) w hT.db hT.ers hT.mx (hO.sl _ hm) []
      rcases h6 with ⟨h6, _⟩ | ⟨h6, _⟩
      · exact ⟨some es, fun _ _ => (rt_prog h3 h5).1 h6, fun es' e => by cases e; exact h4⟩
      · exact ⟨none, fun _ _ => (rt_prog h3 h5).2 h6, fun es' e => by cases e⟩
    · exact ⟨none, fun h => absurd h hi, fun es' e => by cases e⟩
  obtain ⟨R, hR⟩ := Classical.axiomOfChoice h
  exact ⟨R, fun i hi hk => (hR i).1 hi hk, fun i es he => (hR i).2 es he⟩
theorem tell_ev {w : World} (hg : w.cell? ⟨0, 0, none⟩ = some (.iface 116 (.agg #[.pointer (some ⟨7, 38, none⟩)]))) {er : Int} {ev : Value} (h : EvIs w er ev) : Calls Tryz.prog 10 #[ev] w fun e w' => e = .returned (.int .i64 er) ∧ Below w.heap.size w w' := by
  rcases h with rfl | ⟨g, rfl, hc⟩
  · exact tell_errno er w hg
  · exact tell_wrap g er w hg hc
theorem EvIs.below {w w' : World} {er : Int} {ev : Value} (h : EvIs w er ev) (hb : Below w.heap.size w w') : EvIs w' er ev := h.stay (B := 0) (gb_below hb) (rr_none _ _)
structure Lv (w : World) : Prop where
  tb : Tb w
  hand : w.cell? ⟨0, 0, none⟩ = some (.iface 116 (.agg #[.pointer (some ⟨7, 38, none⟩)]))
theorem Lv.below {w w' : World} (h : Lv w) (hb : Below w.heap.size w w') : Lv w' := ⟨h.tb.below hb, (hb.cell (p := ⟨0, 0, none⟩) (by
  obtain ⟨o, ho, _⟩ := cell_cells h.hand
  exact (Array.getElem?_eq_some_iff.1 ho).1)).trans h.hand⟩
set_option maxRecDepth 20000 in
theorem walkF_many (a : Option Addr) (n0 cap : Nat) (pick : Int) (OR : List Value) (w : World) (h : 60 < n0) : Calls Tryz.prog 3 #[.slice a n0 cap, .int .i64 pick, .agg OR.toArray] w fun e w' => e = .returned (.bool true) ∧ Below w.heap.size w w' := by
  have hi : (60 : Int) < (n0 : Int) := by omega
  have HB : Hid (Below w.heap.size w (w.alloc (.cells OR.toArray 24))) := hid ((Below.refl _ w).alloc (Nat.le_refl _) _)
  go_enter Tryz.func3, Tryz.ntmps3
  go_wp2
  go_ret
  exact ⟨rfl, HB.out⟩
set_option maxRecDepth 20000 in
set_option maxHeartbeats 16000000 in
theorem walkF (a : Option Addr) (cap : Nat) (os : List Oj) (w : World) (hP : Px encO 2 dO w a cap os) (hsl : ∀ o ∈ os, Sl w o.a o.cap o.zs) (hib : ∀ o ∈ os, IsB o.zs) (hbig : ∀ o ∈ os, o.zs.length ≤ 200000000000000) (hn : os.length ≤ 60) (hv : Lv w) (pick : Int) (y : List Int) (hy : IdW y) :
    Calls Tryz.prog 3 #[.slice a os.length cap, .int .i64 pick, idV y] w fun e w' => e = .returned (.bool true) ∧ Below w.heap.size w w' := by
  obtain ⟨G, HG⟩ : ∃ G, Hid (w.heap.size = G) := ⟨_, rfl⟩
  obtain ⟨n, HN⟩ : ∃ n, Hid (os.length = n) := ⟨_, rfl⟩
  have hnn : n ≤ 60 := by rw [← HN.out]; exact hn
  have HPX : Hid (∀ W, Below G w W → Px encO 2 dO W a cap os) := fun W hW => hP.below (by rw [HG.out]; exact hW)
  have HSL : Hid (∀ W, Below G w W → ∀ o ∈ os, Sl W o.a o.cap o.zs) := fun W hW o ho => (hsl o ho).below (by rw [HG.out]; exact hW)
  have HIB : Hid (∀ o ∈ os, IsB o.zs) := hib
  have HBIG : Hid (∀ o ∈ os, o.zs.length ≤ 200000000000000) := hbig
  have HLV : Hid (∀ W, Below G w W → Lv W) := fun W hW => hv.below (by rw [HG.out]; exact hW)
  have HPL : Hid (0 < n → ∃ b off, a = some ⟨b, off, none⟩) := fun h0 => by
    obtain ⟨b, off, e1, _⟩ := hP.at_ (by rw [HN.out]; exact h0)
    exact ⟨b, off, e1⟩
  have HYI : Hid (IdW y) := hy
  obtain ⟨Y, HY⟩ := rw_ hy.1
  have hiY := HY.out.i56
  obtain ⟨w1, HW1⟩ : ∃ u, Hid (w.alloc (.cells Y.toArray 24) = u) := ⟨_, rfl⟩
  have HB1 : Hid (Below G w w1) := hid (by rw [← HG.out, ← HW1.out]; exact (Below.refl _ w).alloc (Nat.le_refl _) _)
  have HY1 : Hid (w1.heap[G]? = some (.cells Y.toArray 24 (0, 0))) := hid (by rw [← HG.out, ← HW1.out]; exact heap_alloc_new w _)
  have hs1 : w1.heap.size = G + 1 := by rw [← HW1.out, ← HG.out]; simp
  obtain ⟨G1, HG1⟩ : ∃ g, Hid (w1.heap.size = g) := ⟨_, rfl⟩
  have hGG : G + 1 = G1 := by rw [← HG1.out]; exact hs1.symm
  have HBF : Hid (∀ W, Below G1 w1 W → Below G w W ∧ W.heap[G]? = some (.cells Y.toArray 24 (0, 0))) := fun W hW => ⟨HB1.out.trans (hW.mono (by omega)), (hW.block G (by omega)).trans HY1.out⟩
  obtain ⟨zr, HZ⟩ : ∃ zr : Array Value, Hid ((row .u8 z20).toArray = zr) := ⟨_, rfl⟩
  have hz23 : ∀ w : World, (zeroValue 23).run Tryz.prog w = .ok (.agg zr) w := fun w => by rw [← HZ.out]; kernel_rfl
  have hz24 : ∀ w : World, (zeroValue 24).run Tryz.prog w = .ok (.agg zr) w := fun w => by rw [← HZ.out]; exact zero24 w
  unfold idV
  rw [HN.out, HY.out.e]
  clear hP hsl hib hbig hv hy hn hs1
  have hni : ¬ (60 : Int) < (n : Int) := by omega
  go_enter Tryz.func3, Tryz.ntmps3
  go_wp2_with (first | (rw [HW1.out, HG.out]; refine Hid.out ?_) | fail)
  refine hid ?_
  go_wp2_with fail
  go_loopg [7, 8] n (fun g tv iv wr => ∃ (i t : Nat), tv = .int .i64 t ∧ iv = .int .i64 i ∧ g = n - i ∧ i ≤ n ∧ t ≤ 20000 ∧ Hid (tot (os.take i) = t) ∧ wr = w1)
  case atStart => exact ⟨0, 0, rfl, rfl, rfl, Nat.zero_le _, by omega, hid rfl, rfl⟩
  case round =>
    obtain ⟨i, t, rfl, rfl, hg, hin, ht2, HT, rfl⟩ := hrel
    by_cases hlt : i < n
    · have hlti : (i : Int) < (n : Int) := by omega
      obtain ⟨b, off, hae⟩ := HPL.out (by omega)
      subst hae
      have hil : i < os.length := by rw [HN.out]; exact hlt
      obtain ⟨o, HO⟩ : ∃ o, Hid (os.getD i dO = o) := ⟨_, rfl⟩
      obtain ⟨ol, HOL⟩ : ∃ n, Hid (o.zs.length = n) := ⟨_, rfl⟩
      have hol : ol ≤ 200000000000000 := by rw [← HOL.out, ← HO.out]; exact HBIG.out _ (getD_mem os i dO hil)
      have HTS : Hid (tot (os.take (i + 1)) = t + ol) := hid (by rw [tot_step os i hil, HO.out, HT.out, HOL.out])
      have hc1 : wr.cell? ⟨b, off + i * 2 + 1, none⟩ = some (.slice o.a ol o.cap) := by
        obtain ⟨b', off', e1, _, e3⟩ := (HPX.out wr HB1.out).at_ (by omega)
        cases e1
        have := e3 i hil
        rw [HO.out] at this
        have h2 := (cells_O this).2
        rw [HOL.out] at h2
        exact h2
      clear hil
      by_cases hbt : 20000 < t + ol
      · have hbi : (20000 : Int) < (t : Int) + (ol : Int) := by omega
        go_wp2
        go_ret
        exact ⟨rfl, by rw [HG.out]; exact HB1.out⟩
      · have hbi : ¬ (20000 : Int) < (t : Int) + (ol : Int) := by omega
        go_wp2
        go_roundg (n - (i + 1))
        case measure => omega
        case rel => exact ⟨i + 1, t + ol, by go_num, by go_num, rfl, by omega, by omega, HTS, rfl⟩
    · have hlti : ¬ (i : Int) < (n : Int) := by omega
      have HTT : Hid (tot os = t) := hid (by have := HT.out; rw [List.take_of_length_le (by rw [HN.out]; omega)] at this; exact this)
      have HL2 : Hid (∀ o ∈ os, o.zs.length ≤ 20000) := fun o ho => by have := tot_mem os o ho; rw [HTT.out] at this; omega
      have HOT : Hid (∀ W, Below G w W → Ot W a cap os) := fun W hW => ⟨HPX.out W hW, HSL.out W hW, HIB.out, fun o ho => by have := HL2.out o ho; omega, by rw [HN.out]; exact hnn⟩
      have HRX : Hid (∃ R, Rx os R) := hid (rx_of (HOT.out w (Below.refl _ _)) HL2.out (HLV.out w (Below.refl _ _)).tb)
      have C4 : Hid (Calls Tryz.prog 4 #[.slice a n cap] wr fun e w' => ∃ v, e = .returned v ∧ Bx encO 2 35 wr w' G1 v os) := hid (by
        have := objects_any a cap os wr (HPX.out wr HB1.out) (by rw [HN.out]; exact hnn)
        rw [HN.out, HG1.out] at this
        exact this)
      go_wp2_with fail
      refine C4.out.mono ?_
      rintro ev w2 ⟨v2, rfl, hb2⟩
      obtain ⟨qa, qc, hqe, hqx, _⟩ := hb2.px (d := dO) (encO_len _)
      rw [HN.out] at hqe
      subst hqe
      have HB2 : Hid (Below G1 wr w2) := hid hb2.below
      obtain ⟨K2, HK2⟩ : ∃ K, Hid (w2.heap.size = K) := ⟨_, rfl⟩
      have hGK : G1 ≤ K2 := by rw [← HK2.out]; exact hb2.le
      have HBW : Hid (∀ W, Below K2 w2 W → Below G1 wr W) := fun W hW => HB2.out.trans (hW.mono hGK)
      have HBw : Hid (∀ W, Below K2 w2 W → Below G w W) := fun W hW => (HBF.out W (HBW.out W hW)).1
      have HOQ : Hid (∀ W, Below K2 w2 W → Ot W qa qc os) := fun W hW => ⟨hqx.below (by rw [HK2.out]; exact hW), HSL.out W (HBw.out W hW), HIB.out, (fun o ho => by have := HL2.out o ho; omega), by rw [HN.out]; exact hnn⟩
      have HSTEP : Hid (∀ A C, Below K2 w2 A → Below A.heap.size A C → Below K2 w2 C) := fun A C h1 h2 => h1.trans (h2.mono (by have := h1.size; rw [HK2.out] at this; exact this))
      have C5 : Hid (Calls Tryz.prog 5 #[.slice qa n qc] w2 (PostC5 os w2)) := hid (by
        have := clash_any qa qc os w2 (HOQ.out w2 (Below.refl _ _))
        rw [HN.out] at this
        exact this)
      have HQL : Hid (0 < n → ∃ b off, qa = some ⟨b, off, none⟩) := fun h0 => by
        obtain ⟨b, off, e1, _⟩ := hqx.at_ (by rw [HN.out]; exact h0)
        exact ⟨b, off, e1⟩
      clear hb2 hqx
      go_wp2_with fail
      refine C5.out.mono ?_
      rintro ev w3 ⟨bc, rfl, hb3, hnc⟩
      have HB3 : Hid (Below K2 w2 w3) := hid (by rw [← HK2.out]; exact hb3)
      clear hb3
      cases bc with
      | true =>
        go_wp2
        go_ret
        exact ⟨rfl, by rw [HG.out]; exact HBw.out _ HB3.out⟩
      | false =>
        have HNC : Hid (NoC os) := hid (hnc rfl)
        obtain ⟨R, hR⟩ := HRX.out
        obtain ⟨lk, hlk⟩ := lk_of hR HNC.out
        have HR : Hid (Rx os R) := hR
        have HLK : Hid (Lk os R lk) := hlk
        have HFO : Hid (Fo lk) := hid (hlk.fo hR)
        have RY3 : Hid (w3.rangeAt G 0 Y) := hid (range_row (HBF.out _ (HBW.out _ HB3.out)).2)
        obtain ⟨H, w4, HN4⟩ := nw 24 zr w3 Y
        have HB34 : Hid (Below w3.heap.size w3 w4) := hid (by have := HN4.out.below; rw [← HN4.out.h] at this; exact this)
        have HB4 : Hid (Below K2 w2 w4) := hid (HSTEP.out _ _ HB3.out HB34.out)
        have HX4 : Hid (w4.heap[H]? = some (.cells Y.toArray 24 (0, 0))) := hid HN4.out.box
        have EY : Hid (zr.size = Y.toArray.size) := hid (by rw [← HZ.out]; exact HY.out.z)
        have hHK : Hid (K2 ≤ H) := hid (by rw [← HN4.out.h, ← HK2.out]; exact HB3.out.size)
        clear hnc hR hlk
        have FIN : Hid (∀ (z : List Int) (hz : IdW z) (W : World), Below K2 w2 W → True) := fun _ _ _ _ => trivial
        by_cases hpk : 0 < n ∧ 0 ≤ pick
        · obtain ⟨h0n, hp0⟩ := hpk
          have h0ni : (0 : Int) < (n : Int) := by omega
          have hn0 : ¬ (n : Int) = 0 := by omega
          obtain ⟨qb, qo, hqa⟩ := HQL.out h0n
          subst hqa
          obtain ⟨r, HRM, hrn⟩ : ∃ r : Nat, Hid (Int.tmod pick (n : Int) = (r : Int)) ∧ r < n := ⟨(Int.tmod pick (n : Int)).toNat, hid (Int.toNat_of_nonneg (Int.tmod_nonneg _ hp0)).symm, by have h1 := Int.tmod_lt_of_pos pick h0ni; have h2 := Int.tmod_nonneg (n : Int) hp0; omega⟩
          have hrni : (r : Int) < (n : Int) := by omega
          have hrem : Int.tmod pick (n : Int) = (r : Int) := HRM.out
          have hrl : r < os.length := by rw [HN.out]; exact hrn
          obtain ⟨o, HO⟩ : ∃ o, Hid (os.getD r dO = o) := ⟨_, rfl⟩
          have HOM : Hid (o ∈ os) := hid (by rw [← HO.out]; exact getD_mem os r dO hrl)
          obtain ⟨RO, HRO⟩ : ∃ S : List Value, Hid (encO o = S) := ⟨_, rfl⟩
          have hi35 : (Tryz.prog.info? 35).map (·.size) = some RO.length := by rw [← HRO.out]; exact info35
          have RR4 : Hid (w4.rangeAt qb (qo + r * 2) RO) := hid (by
            obtain ⟨b', off', e1, _, e3⟩ := (HOQ.out w4 HB4.out).px.at_ (by omega)
            cases e1
            have := e3 r hrl
            rw [HO.out, HRO.out] at this
            exact this)
          obtain ⟨er0, HER0⟩ : ∃ er, Hid (oer o = er) := ⟨_, rfl⟩
          obtain ⟨FR, HFR⟩ := rw_ (oid_w o).1
          have hiF := HFR.out.i31
          have EF : Hid (zr.size = FR.toArray.size) := hid (by rw [← HZ.out]; exact HFR.out.z)
          have EYF : Hid (Y.toArray.size = FR.toArray.size) := hid (by rw [← EY.out]; exact EF.out)
          have CID : Hid (Calls Tryz.prog 6 #[.agg RO.toArray] w4 fun e w' => e = .returned (.tuple #[.agg FR.toArray, .int .i64 er0]) ∧ Below w4.heap.size w4 w') :=
            refID_o o w4 ((HOQ.out w4 HB4.out).len o HOM.out) ((HOQ.out w4 HB4.out).isb o HOM.out) ((HOQ.out w4 HB4.out).sl o HOM.out) HFR.out HRO.out HER0.out
          clear hrl
          go_wp2_with (first
            | refine wpList_load_mid rfl 24 _ rfl G 0 rfl Y _ RY3.out Tryz.underlying24 rfl hiY ?_
            | (refine wpList_store_row rfl 24 _ _ rfl w3.heap.size Y.toArray rfl rfl 24 zr HN4.out.d HY.out.j56 EY.out HY.out.o ?_; rw [HN4.out.w, HN4.out.h])
            | refine wpList_load_mid rfl 35 _ rfl qb (qo + r * 2) rfl RO _ RR4.out Tryz.underlying35 rfl hi35 ?_)
          refine CID.out.mono ?_
          rintro ev w5 ⟨rfl, hb5⟩
          obtain ⟨H6, w6, HN6⟩ := nw 23 zr w5 FR
          have hb6 : Below w4.heap.size w4 w6 := hb5.trans (HN6.out.below.mono (by rw [← HN6.out.h]; exact hb5.size))
          have HB6 : Hid (Below K2 w2 w6) := hid (HSTEP.out _ _ HB4.out hb6)
          have HX6 : Hid (w6.heap[H]? = some (.cells Y.toArray 24 (0, 0))) := hid ((hb6.block H (Array.getElem?_eq_some_iff.1 HX4.out).1).trans HX4.out)
          have RF6 : Hid (w6.rangeAt H6 0 FR) := hid (range_row HN6.out.box)
          obtain ⟨w7, HW7⟩ : ∃ u, Hid (w6.setRow H FR.toArray = u) := ⟨_, rfl⟩
          have HB7x : Hid (Below K2 w2 w7) := hid (by rw [← HW7.out]; exact below_setRow HB6.out hHK.out _)
          have HX7 : Hid (w7.heap[H]? = some (.cells FR.toArray 24 (0, 0))) := hid (by rw [← HW7.out]; exact setRow_heap _ _ _ _ _ _ HX6.out)
          clear hb5 hb6
          obtain ⟨its, HIT⟩ : ∃ l, Hid (itm lk 102 (oid o) [] = l) := ⟨_, rfl⟩
          have RXW : Hid (w7.rangeAt H 0 FR) := hid (range_row HX7.out)
          have hiZ := HFR.out.i56
          have hHW : H < w7.heap.size := (Array.getElem?_eq_some_iff.1 HX7.out).1
          have C7 : Hid (Calls Tryz.prog 7 #[.agg FR.toArray, .slice a n cap] w7 (PostFl its w7)) := hid (by
            have := flat_any os a cap R HR.out lk HLK.out HFO.out w7 (HOT.out w7 (HBw.out w7 HB7x.out)) HL2.out (HLV.out w7 (HBw.out w7 HB7x.out)).tb (oid o) (oid_w o)
            unfold idV at this
            rw [HFR.out.e, HIT.out, HN.out] at this
            exact this)
          have C8 : Hid (∀ W, Below K2 w2 W → Calls Tryz.prog 8 #[.agg FR.toArray, .slice (some ⟨qb, qo, none⟩) n qc] W (PostFd its W)) := fun W hW => by
            have := refFlat_any os (some ⟨qb, qo, none⟩) qc R HR.out lk HLK.out HFO.out W (HOQ.out W hW) HL2.out (oid o) (oid_w o)
            unfold idV at this
            rw [HFR.out.e, HIT.out, HN.out] at this
            exact this
          go_wp2_with (first
            | refine wpList_load_mid rfl 23 _ rfl H6 0 rfl FR _ RF6.out Tryz.underlying23 rfl hiF ?_
            | (refine wpList_store_row rfl 24 _ _ rfl H FR.toArray rfl rfl 24 Y.toArray HX6.out HFR.out.j56 EYF.out HFR.out.o ?_; rw [HW7.out])
            | (refine wpList_store_row rfl 23 _ _ rfl w5.heap.size FR.toArray rfl rfl 23 zr HN6.out.d HFR.out.j31 EF.out HFR.out.o ?_; rw [HN6.out.w, HN6.out.h])
            | refine wpList_load_mid rfl 24 _ rfl H 0 rfl FR _ RXW.out Tryz.underlying24 rfl hiZ ?_)
          refine C7.out.mono ?_
          rintro ev w70 ⟨hb7, er, fs, hsc, hres⟩
          have HB7 : Hid (Below K2 w2 w70) := hid (HSTEP.out _ _ HB7x.out hb7)
          have RX7 : Hid (w70.rangeAt H 0 FR) := hid (range_row ((hb7.block H hHW).trans HX7.out))
          have HSC : Hid (sc its [] = (er, fs)) := hsc
          obtain ⟨xa, xc, ev2, hev, HXP, HIF, HFL, HEV⟩ : ∃ (xa : Option Addr) (xc : Nat) (ev2 : Value), ev = .returned (.tuple #[.slice xa fs.length xc, ev2]) ∧ Hid (Px encF 24 f0 w70 xa xc fs) ∧ Hid (IdF fs) ∧ Hid (fs.length ≤ 2000) ∧ Hid ((er = 0 ∧ ev2 = .nilIface) ∨ EvIs w70 er ev2) := by
            rcases hres with ⟨h0, ra, rc, rfl, h1, h2, h3⟩ | ⟨h0, ev2, rfl, h1⟩
            · exact ⟨ra, rc, _, rfl, h1, h2, h3, hid (.inl ⟨h0, rfl⟩)⟩
            · have e : fs = [] := by
                have := sc_err its [] (by rw [hsc]; exact h0)
                rw [hsc] at this
                exact this
              subst e
              exact ⟨none, 0, ev2, rfl, hid ⟨Nat.le_refl _, (fun h => by simp at h), fun _ => rfl⟩, (fun f h => by cases h), hid (by decide), hid (.inr h1)⟩
          subst hev
          obtain ⟨nx, HNX⟩ : ∃ n, Hid (fs.length = n) := ⟨_, rfl⟩
          rw [HNX.out]
          have C8' : Hid (Calls Tryz.prog 8 #[.agg FR.toArray, .slice (some ⟨qb, qo, none⟩) n qc] w70 (PostFd its w70)) := hid (C8.out w70 HB7.out)
          clear hb7 hsc hres C8
          go_wp2_with (refine wpList_load_mid rfl 24 _ rfl H 0 rfl FR _ RX7.out Tryz.underlying24 rfl hiZ ?_)
          refine C8'.out.mono ?_
          rintro ev w8 ⟨hb8, er', fs', hsc', hif', hfl', ya, yc, rfl, hpy⟩
          have hpe := HSC.out.symm.trans hsc'
          cases hpe
          have HB8 : Hid (Below K2 w2 w8) := hid (HSTEP.out _ _ HB7.out hb8)
          have C9 : Hid (Calls Tryz.prog 9 #[.slice xa nx xc, .slice ya nx yc] w8 fun e w' => e = .returned (.bool true) ∧ Below w8.heap.size w8 w') := hid (by
            have := same_any xa xc ya yc fs (HXP.out.below hb8) hpy HIF.out (by have := HFL.out; omega)
            rw [HNX.out] at this
            exact this)
          have HEV8 : Hid ((er = 0 ∧ ev2 = .nilIface) ∨ EvIs w8 er ev2) := hid (HEV.out.imp id (fun h => h.below hb8))
          rw [HNX.out]
          clear hb8 hsc' hif' hfl' hpy
          go_wp2_with fail
          refine C9.out.mono ?_
          rintro ev w9 ⟨rfl, hb9⟩
          have HB9 : Hid (Below K2 w2 w9) := hid (HSTEP.out _ _ HB8.out hb9)
          have C10 : Hid (Calls Tryz.prog 10 #[ev2] w9 fun e w' => e = .returned (.int .i64 er) ∧ Below w9.heap.size w9 w') := hid (by
            rcases HEV8.out with ⟨rfl, rfl⟩ | h
            · exact tell_nil w9
            · exact tell_ev (HLV.out w9 (HBw.out _ HB9.out)).hand (h.below hb9))
          have hkb3 : ((er : Int) == er) = true := by simp
          clear hb9
          go_wp2_with fail
          refine C10.out.mono ?_
          rintro ev w10 ⟨rfl, hb10⟩
          have HB10 : Hid (Below K2 w2 w10) := hid (HSTEP.out _ _ HB9.out hb10)
          clear hb10
          go_wp2
          go_ret
          exact ⟨rfl, by rw [HG.out]; exact HBw.out _ HB10.out⟩
        · have hpn : n = 0 ∨ pick < 0 := by omega
          rcases Nat.eq_zero_or_pos n with h0n | h0n
          · have h0ni : ¬ (0 : Int) < (n : Int) := by omega
            clear h0n hpn hpk
            obtain ⟨its, HIT⟩ : ∃ l, Hid (itm lk 102 y [] = l) := ⟨_, rfl⟩
            have RXW : Hid (w4.rangeAt H 0 Y) := hid (range_row HX4.out)
            have hiZ := HY.out.i56
            have hHW : H < w4.heap.size := (Array.getElem?_eq_some_iff.1 HX4.out).1
            have C7 : Hid (Calls Tryz.prog 7 #[.agg Y.toArray, .slice a n cap] w4 (PostFl its w4)) := hid (by
              have := flat_any os a cap R HR.out lk HLK.out HFO.out w4 (HOT.out w4 (HBw.out w4 HB4.out)) HL2.out (HLV.out w4 (HBw.out w4 HB4.out)).tb y HYI.out
              unfold idV at this
              rw [HY.out.e, HIT.out, HN.out] at this
              exact this)
            have C8 : Hid (∀ W, Below K2 w2 W → Calls Tryz.prog 8 #[.agg Y.toArray, .slice qa n qc] W (PostFd its W)) := fun W hW => by
              have := refFlat_any os qa qc R HR.out lk HLK.out HFO.out W (HOQ.out W hW) HL2.out y HYI.out
              unfold idV at this
              rw [HY.out.e, HIT.out, HN.out] at this
              exact this
            go_wp2_with (first
              | refine wpList_load_mid rfl 24 _ rfl G 0 rfl Y _ RY3.out Tryz.underlying24 rfl hiY ?_
              | (refine wpList_store_row rfl 24 _ _ rfl w3.heap.size Y.toArray rfl rfl 24 zr HN4.out.d HY.out.j56 EY.out HY.out.o ?_; rw [HN4.out.w, HN4.out.h])
              | refine wpList_load_mid rfl 24 _ rfl H 0 rfl Y _ RXW.out Tryz.underlying24 rfl hiZ ?_)
            refine C7.out.mono ?_
            rintro ev w7 ⟨hb7, er, fs, hsc, hres⟩
            have HB7 : Hid (Below K2 w2 w7) := hid (HSTEP.out _ _ HB4.out hb7)
            have RX7 : Hid (w7.rangeAt H 0 Y) := hid (range_row ((hb7.block H hHW).trans HX4.out))
            have HSC : Hid (sc its [] = (er, fs)) := hsc
            obtain ⟨xa, xc, ev2, hev, HXP, HIF, HFL, HEV⟩ : ∃ (xa : Option Addr) (xc : Nat) (ev2 : Value), ev = .returned (.tuple #[.slice xa fs.length xc, ev2]) ∧ Hid (Px encF 24 f0 w7 xa xc fs) ∧ Hid (IdF fs) ∧ Hid (fs.length ≤ 2000) ∧ Hid ((er = 0 ∧ ev2 = .nilIface) ∨ EvIs w7 er ev2) := by
              rcases hres with ⟨h0, ra, rc, rfl, h1, h2, h3⟩ | ⟨h0, ev2, rfl, h1⟩
              · exact ⟨ra, rc, _, rfl, h1, h2, h3, hid (.inl ⟨h0, rfl⟩)⟩
              · have e : fs = [] := by
                  have := sc_err its [] (by rw [hsc]; exact h0)
                  rw [hsc] at this
                  exact this
                subst e
                exact ⟨none, 0, ev2, rfl, hid ⟨Nat.le_refl _, (fun h => by simp at h), fun _ => rfl⟩, (fun f h => by cases h), hid (by decide), hid (.inr h1)⟩
            subst hev
            obtain ⟨nx, HNX⟩ : ∃ n, Hid (fs.length = n) := ⟨_, rfl⟩
            rw [HNX.out]
            have C8' : Hid (Calls Tryz.prog 8 #[.agg Y.toArray, .slice qa n qc] w7 (PostFd its w7)) := hid (C8.out w7 HB7.out)
            clear hb7 hsc hres C8
            go_wp2_with (refine wpList_load_mid rfl 24 _ rfl H 0 rfl Y _ RX7.out Tryz.underlying24 rfl hiZ ?_)
            refine C8'.out.mono ?_
            rintro ev w8 ⟨hb8, er', fs', hsc', hif', hfl', ya, yc, rfl, hpy⟩
            have hpe := HSC.out.symm.trans hsc'
            cases hpe
            have HB8 : Hid (Below K2 w2 w8) := hid (HSTEP.out _ _ HB7.out hb8)
            have C9 : Hid (Calls Tryz.prog 9 #[.slice xa nx xc, .slice ya nx yc] w8 fun e w' => e = .returned (.bool true) ∧ Below w8.heap.size w8 w') := hid (by
              have := same_any xa xc ya yc fs (HXP.out.below hb8) hpy HIF.out (by have := HFL.out; omega)
              rw [HNX.out] at this
              exact this)
            have HEV8 : Hid ((er = 0 ∧ ev2 = .nilIface) ∨ EvIs w8 er ev2) := hid (HEV.out.imp id (fun h => h.below hb8))
            rw [HNX.out]
            clear hb8 hsc' hif' hfl' hpy
            go_wp2_with fail
            refine C9.out.mono ?_
            rintro ev w9 ⟨rfl, hb9⟩
            have HB9 : Hid (Below K2 w2 w9) := hid (HSTEP.out _ _ HB8.out hb9)
            have C10 : Hid (Calls Tryz.prog 10 #[ev2] w9 fun e w' => e = .returned (.int .i64 er) ∧ Below w9.heap.size w9 w') := hid (by
              rcases HEV8.out with ⟨rfl, rfl⟩ | h
              · exact tell_nil w9
              · exact tell_ev (HLV.out w9 (HBw.out _ HB9.out)).hand (h.below hb9))
            have hkb3 : ((er : Int) == er) = true := by simp
            clear hb9
            go_wp2_with fail
            refine C10.out.mono ?_
            rintro ev w10 ⟨rfl, hb10⟩
            have HB10 : Hid (Below K2 w2 w10) := hid (HSTEP.out _ _ HB9.out hb10)
            clear hb10
            go_wp2
            go_ret
            exact ⟨rfl, by rw [HG.out]; exact HBw.out _ HB10.out⟩
          · have hp0 : ¬ 0 ≤ pick := by omega
            have h0ni : (0 : Int) < (n : Int) := by omega
            clear hpn hpk
            obtain ⟨its, HIT⟩ : ∃ l, Hid (itm lk 102 y [] = l) := ⟨_, rfl⟩
            have RXW : Hid (w4.rangeAt H 0 Y) := hid (range_row HX4.out)
            have hiZ := HY.out.i56
            have hHW : H < w4.heap.size := (Array.getElem?_eq_some_iff.1 HX4.out).1
            have C7 : Hid (Calls Tryz.prog 7 #[.agg Y.toArray, .slice a n cap] w4 (PostFl its w4)) := hid (by
              have := flat_any os a cap R HR.out lk HLK.out HFO.out w4 (HOT.out w4 (HBw.out w4 HB4.out)) HL2.out (HLV.out w4 (HBw.out w4 HB4.out)).tb y HYI.out
              unfold idV at this
              rw [HY.out.e, HIT.out, HN.out] at this
              exact this)
            have C8 : Hid (∀ W, Below K2 w2 W → Calls Tryz.prog 8 #[.agg Y.toArray, .slice qa n qc] W (PostFd its W)) := fun W hW => by
              have := refFlat_any os qa qc R HR.out lk HLK.out HFO.out W (HOQ.out W hW) HL2.out y HYI.out
              unfold idV at this
              rw [HY.out.e, HIT.out, HN.out] at this
              exact this
            go_wp2_with (first
              | refine wpList_load_mid rfl 24 _ rfl G 0 rfl Y _ RY3.out Tryz.underlying24 rfl hiY ?_
              | (refine wpList_store_row rfl 24 _ _ rfl w3.heap.size Y.toArray rfl rfl 24 zr HN4.out.d HY.out.j56 EY.out HY.out.o ?_; rw [HN4.out.w, HN4.out.h])
              | refine wpList_load_mid rfl 24 _ rfl H 0 rfl Y _ RXW.out Tryz.underlying24 rfl hiZ ?_)
            refine C7.out.mono ?_
            rintro ev w7 ⟨hb7, er, fs, hsc, hres⟩
            have HB7 : Hid (Below K2 w2 w7) := hid (HSTEP.out _ _ HB4.out hb7)
            have RX7 : Hid (w7.rangeAt H 0 Y) := hid (range_row ((hb7.block H hHW).trans HX4.out))
            have HSC : Hid (sc its [] = (er, fs)) := hsc
            obtain ⟨xa, xc, ev2, hev, HXP, HIF, HFL, HEV⟩ : ∃ (xa : Option Addr) (xc : Nat) (ev2 : Value), ev = .returned (.tuple #[.slice xa fs.length xc, ev2]) ∧ Hid (Px encF 24 f0 w7 xa xc fs) ∧ Hid (IdF fs) ∧ Hid (fs.length ≤ 2000) ∧ Hid ((er = 0 ∧ ev2 = .nilIface) ∨ EvIs w7 er ev2) := by
              rcases hres with ⟨h0, ra, rc, rfl, h1, h2, h3⟩ | ⟨h0, ev2, rfl, h1⟩
              · exact ⟨ra, rc, _, rfl, h1, h2, h3, hid (.inl ⟨h0, rfl⟩)⟩
              · have e : fs = [] := by
                  have := sc_err its [] (by rw [hsc]; exact h0)
                  rw [hsc] at this
                  exact this
                subst e
                exact ⟨none, 0, ev2, rfl, hid ⟨Nat.le_refl _, (fun h => by simp at h), fun _ => rfl⟩, (fun f h => by cases h), hid (by decide), hid (.inr h1)⟩
            subst hev
            obtain ⟨nx, HNX⟩ : ∃ n, Hid (fs.length = n) := ⟨_, rfl⟩
            rw [HNX.out]
            have C8' : Hid (Calls Tryz.prog 8 #[.agg Y.toArray, .slice qa n qc] w7 (PostFd its w7)) := hid (C8.out w7 HB7.out)
            clear hb7 hsc hres C8
            go_wp2_with (refine wpList_load_mid rfl 24 _ rfl H 0 rfl Y _ RX7.out Tryz.underlying24 rfl hiZ ?_)
            refine C8'.out.mono ?_
            rintro ev w8 ⟨hb8, er', fs', hsc', hif', hfl', ya, yc, rfl, hpy⟩
            have hpe := HSC.out.symm.trans hsc'
            cases hpe
            have HB8 : Hid (Below K2 w2 w8) := hid (HSTEP.out _ _ HB7.out hb8)
            have C9 : Hid (Calls Tryz.prog 9 #[.slice xa nx xc, .slice ya nx yc] w8 fun e w' => e = .returned (.bool true) ∧ Below w8.heap.size w8 w') := hid (by
              have := same_any xa xc ya yc fs (HXP.out.below hb8) hpy HIF.out (by have := HFL.out; omega)
              rw [HNX.out] at this
              exact this)
            have HEV8 : Hid ((er = 0 ∧ ev2 = .nilIface) ∨ EvIs w8 er ev2) := hid (HEV.out.imp id (fun h => h.below hb8))
            rw [HNX.out]
            clear hb8 hsc' hif' hfl' hpy
            go_wp2_with fail
            refine C9.out.mono ?_
            rintro ev w9 ⟨rfl, hb9⟩
            have HB9 : Hid (Below K2 w2 w9) := hid (HSTEP.out _ _ HB8.out hb9)
            have C10 : Hid (Calls Tryz.prog 10 #[ev2] w9 fun e w' => e = .returned (.int .i64 er) ∧ Below w9.heap.size w9 w') := hid (by
              rcases HEV8.out with ⟨rfl, rfl⟩ | h
              · exact tell_nil w9
              · exact tell_ev (HLV.out w9 (HBw.out _ HB9.out)).hand (h.below hb9))
            have hkb3 : ((er : Int) == er) = true := by simp
            clear hb9
            go_wp2_with fail
            refine C10.out.mono ?_
            rintro ev w10 ⟨rfl, hb10⟩
            have HB10 : Hid (Below K2 w2 w10) := hid (HSTEP.out _ _ HB9.out hb10)
            clear hb10
            go_wp2
            go_ret
            exact ⟨rfl, by rw [HG.out]; exact HBw.out _ HB10.out⟩
end Go.Proofs.YtikmbjfambjmaaaGreatDoor.Gr
