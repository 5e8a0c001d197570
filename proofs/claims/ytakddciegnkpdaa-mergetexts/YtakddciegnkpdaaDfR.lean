/- The document's 'Lines'. -/
import Derived.Test.YtakddciegnkpdaaDfS
namespace Go.Proofs.Ytakddciegnkpdaa
open Go.RowKit
set_option linter.unusedVariables false
set_option linter.unusedSimpArgs false
theorem u8_ten {c : UInt8} (h : (c.toNat : Int) = 10) : c = 10 := by
  apply UInt8.toNat_inj.1
  have : c.toNat = 10 := by omega
  rw [this]; rfl
set_option maxRecDepth 20000 in
set_option maxHeartbeats 1000000 in
theorem refLines_any {w : World} (a : Option Addr) (cap : Nat) (s : Str) (hP : PB w a cap s) (hn : s.length ≤ 4000) :
    Calls Try.prog 15 #[.slice a s.length cap] w (PostS (lns s) w) := by
  obtain ⟨n, HN⟩ : ∃ n, Hid (s.length = n) := ⟨_, rfl⟩
  obtain ⟨G, HG⟩ : ∃ G, Hid (w.heap.size = G) := ⟨_, rfl⟩
  have hn4 : n ≤ 4000 := by rw [← HN.out]; exact hn
  have HPB : Hid (∀ W, Below G w W → PB W a cap s) := fun W hW => hP.below (by rw [HG.out]; exact hW)
  have HPF : Hid (0 < n → ∃ b off, a = some ⟨b, off, none⟩) := fun h0 => by
    obtain ⟨b, off, e1, _⟩ := hP.at_ (by rw [HN.out]; exact h0)
    exact ⟨b, off, e1⟩
  have hcn : n ≤ cap := by rw [← HN.out]; exact hP.capl
  rw [HN.out]
  clear hP hn
  go_enter Try.func15, Try.ntmps15
  go_wp2_with fail
  go_loopg [3, 4, 5] n (fun gg lv fv iv wr => ∃ (i f m : Nat) (L : List Str) (la : Option Addr) (lc : Nat), lv = .slice la m lc ∧ L.length = m ∧ i ≤ n ∧ f ≤ i ∧ gg = n - i ∧ fv = .int .i64 f ∧ iv = .int .i64 i ∧ m ≤ f ∧ (i = n → f = n) ∧ Hid (BS w wr G (.slice la m lc) L) ∧ Hid (lns s = L ++ lns (s.drop f)) ∧ Hid ((10 : UInt8) ∉ (s.drop f).take (i - f)))
  case atStart => exact ⟨0, 0, 0, [], none, 0, rfl, rfl, Nat.zero_le _, Nat.le_refl _, rfl, rfl, rfl, Nat.le_refl _, fun h => h, hid (bx_nil 9 w G (by rw [HG.out]; exact Nat.le_refl _)), hid rfl, hid (by simp)⟩
  case round =>
    obtain ⟨i, f, m, L, la, lc, rfl, hLm, hi, hfi, hk, rfl, rfl, hLf, hend, HB, HL, HNO⟩ := hrel
    by_cases hlt : i < n
    · have hlti : (i : Int) < (n : Int) := by omega
      obtain ⟨b, off, hae⟩ := HPF.out (by omega)
      subst hae
      obtain ⟨c, HC⟩ : ∃ c, Hid (s.getD i 0 = c) := ⟨_, rfl⟩
      have hc0 : wr.cell? ⟨b, off + i, none⟩ = some (.int .u8 (c.toNat : Int)) := by rw [← HC.out]; exact PB.cell (HPB.out wr HB.out.below) i (by rw [HN.out]; exact hlt)
      have hc1 : wr.cell? ⟨b, off + i * 1, none⟩ = some (.int .u8 (c.toNat : Int)) := by rw [Nat.mul_one]; exact hc0
      by_cases hE : c = 10 ∨ i + 1 = n
      · obtain ⟨t, HT⟩ : ∃ t, Hid ((s.drop f).take (i + 1 - f) = t) := ⟨_, rfl⟩
        have htl : t.length = i + 1 - f := by rw [← HT.out, List.length_take, List.length_drop, HN.out]; omega
        have hcv : (convert 22 9 (.slice (some ⟨b, off + f, none⟩) (i + 1 - f : Nat) (cap - f : Nat))).run Try.prog wr = .ok (sV t) wr := by
          have h := (HPB.out wr HB.out.below).mid f (i + 1) (by omega) (by rw [HN.out]; omega)
          rw [HT.out] at h
          have h2 := conv_str h
          rw [htl] at h2
          rw [show adX 1 (some ⟨b, off, none⟩) cap f = some ⟨b, off + f, none⟩ by unfold adX; rw [if_neg (by omega), Option.map_some, addr_add, Nat.mul_one]] at h2
          exact h2
        have HL2 : Hid (lns s = (L ++ [t]) ++ lns (s.drop (i + 1))) := hid (by
          rw [← HT.out]
          exact lns_step s f i L HL.out hfi (by rw [HN.out]; exact hlt) HNO.out (by rw [HC.out, HN.out]; exact hE))
        have HBu : Hid (∀ W : World, (Instr.buildSlice 36 1 #[(0, sV t)]).run Try.prog W = .ok (.slice (some ⟨W.heap.size, 0, none⟩) 1 1) (W.alloc (.cells #[sV t] 9))) := fun W => run_build24 t W
        have HAP : Hid (∀ (ops : Array Oper) (rest : List Oper) (o : Oper) (ac : Act) (Q : Exit → Act → World → Prop), o.guard = none → ∀ (x y : Operand), o.op = .call { callee := .builtin .append, args := #[x, y], argTypes := #[36, 36] } → ac.eval x = .slice la m lc → ac.eval y = .slice (some ⟨wr.heap.size, 0, none⟩) 1 1 → (∀ a' c' w', Hid (BS w w' G (.slice a' (m + 1 : Nat) c') (L ++ [t])) → wpList Try.prog ops Q rest (ac.put o.dst (.slice a' (m + 1 : Nat) c')) w') → wpList Try.prog ops Q (o :: rest) ac (wr.alloc (.cells #[sV t] 9))) := fun ops rest o ac Q hg x y ho hx hy hK => by
          refine wpList_bx_sl hg x y 36 9 und24 Try.info9 rfl (by decide) (by decide) encS_one ho G (.slice la m lc) L hx (HB.out.alloc _) _ 1 [t] hy (ps_one t wr) (fun x _ => encS_len x) (by rw [hLm]; simp; omega) ?_
          intro v' w' h1 h2
          obtain ⟨a', c', rfl⟩ := owns_shape h1.own
          rw [List.length_append, hLm] at h1 ⊢
          exact hK a' c' w' h1
        generalize sV t = T at hcv HBu HAP
        have HCE : Hid (c = 10 ∨ i + 1 = n) := hE
        by_cases hc10 : c = 10
        · have hcI : (c.toNat : Int) = 10 := by rw [hc10]; rfl
          rw [hcI] at hc0 hc1
          clear HC hE
          go_wp2_with (first
            | refine wpList_bS rfl 36 1 _ rfl T _ rfl (HBu.out _) ?_
            | (refine HAP.out _ _ _ _ _ rfl _ _ rfl rfl rfl ?_; intro a' c' w' HB')
            | fail)
          go_roundg (n - (i + 1))
          case measure => omega
          case rel => exact ⟨i + 1, i + 1, m + 1, L ++ [t], a', c', rfl, by simp [hLm], by omega, by omega, rfl, by go_num, by go_num, by omega, fun h => by omega, HB', HL2, hid (by simp)⟩
        · have hcI : ¬ (c.toNat : Int) = 10 := fun h => hc10 (u8_ten h)
          have hin : i + 1 = n := hE.resolve_left hc10
          have hinI : (i : Int) + 1 = (n : Int) := by omega
          rw [show i + 1 - f = n - f by omega] at hcv
          clear HC hE
          go_wp2_with (first
            | refine wpList_bS rfl 36 1 _ rfl T _ rfl (HBu.out _) ?_
            | (refine HAP.out _ _ _ _ _ rfl _ _ rfl rfl rfl ?_; intro a' c' w' HB')
            | fail)
          go_roundg (n - (i + 1))
          case measure => omega
          case rel => exact ⟨i + 1, i + 1, m + 1, L ++ [t], a', c', rfl, by simp [hLm], by omega, by omega, rfl, by go_num, by go_num, by omega, fun h => by omega, HB', HL2, hid (by simp)⟩
      · have hc10 : ¬ c = 10 := fun h => hE (.inl h)
        have hcI : ¬ (c.toNat : Int) = 10 := fun h => hc10 (u8_ten h)
        have hin : ¬ i + 1 = n := fun h => hE (.inr h)
        have hinI : ¬ (i : Int) + 1 = (n : Int) := by omega
        have hb1 : ((c.toNat : Int) == 10) = false := by simp [hcI]
        have hb2 : ((i : Int) + 1 == (n : Int)) = false := by simp [hinI]
        have HNO2 : Hid ((10 : UInt8) ∉ (s.drop f).take (i + 1 - f)) := hid (lns_go s f i hfi (by rw [HN.out]; exact hlt) HNO.out (by rw [HC.out]; exact hc10))
        clear HC hE
        go_wp2
        go_roundg (n - (i + 1))
        case measure => omega
        case rel => exact ⟨i + 1, f, m, L, la, lc, rfl, hLm, by omega, by omega, rfl, rfl, by go_num, hLf, fun h => by omega, HB, HL, HNO2⟩
    · have hlti : ¬ (i : Int) < (n : Int) := by omega
      have HLZ : Hid (lns s = L) := hid (by
        have := HL.out
        rw [List.drop_of_length_le (by rw [HN.out, hend (by omega)]; exact Nat.le_refl _), lns_nil, List.append_nil] at this
        exact this)
      go_wp2
      go_ret
      refine ⟨_, rfl, ?_⟩
      rw [HLZ.out, HG.out]
      exact HB.out
end Go.Proofs.Ytakddciegnkpdaa
