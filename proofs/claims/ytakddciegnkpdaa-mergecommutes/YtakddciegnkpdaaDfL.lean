/- 'diff.Lines'. -/
import Derived.Test.YtakddciegnkpdaaDfA
namespace Go.Proofs.Ytakddciegnkpdaa
open Go.RowKit
set_option linter.unusedVariables false
set_option linter.unusedSimpArgs false
theorem base_mono {w : World} {B B' : Nat} {e : TypeId} {s : Nat} {v : Value} {n : Nat} {xs : List Value} (h : w.ownsRow B' e s v n xs) (hB : B ≤ B') : w.ownsRow B e s v n xs := by
  obtain ⟨hl, h1 | ⟨g, c, cur, h1, h2, h3⟩⟩ := h
  · exact ⟨hl, .inl h1⟩
  · exact ⟨hl, .inr ⟨g, c, cur, h1, Nat.le_trans hB h2, h3⟩⟩
theorem collect_any (Bs : Nat) (s : Str) (hl : s.length ≤ 4000) (w00 w : World) (hb0 : Below w00.heap.size w00 w) (hB0 : w00.heap.size ≤ Bs) (hbs : Boxed w Bs 9 (sV s)) :
    Calls Try.prog 25 #[.func (.func 30) #[] #[.pointer (some ⟨Bs, 0, none⟩)]] w (PostK (lns s) w00 w) := by
  have HC : Hid (Calls Try.prog 29 #[.slice none 0 0, .func (.func 30) #[] #[.pointer (some ⟨Bs, 0, none⟩)]] w (PostK (lns s) w00 w)) := appendSeq_any Bs s hl w00 w hb0 hB0 hbs
  clear hb0 hbs
  go_enter Try.func25, Try.ntmps25
  go_wp2_with fail
  refine HC.out.mono ?_
  rintro e w1 ⟨v, rfl, ho, hb⟩
  have HO : Hid (w1.ownsRow w.heap.size 9 1 v (lns s).length (fS (lns s))) := ho
  have HB : Hid (Below w00.heap.size w00 w1) := hb
  clear ho hb
  go_wp2
  go_ret
  exact ⟨v, rfl, HO.out, HB.out⟩
theorem seq_call (s : Str) (w : World) : Calls Try.prog 26 #[sV s] w fun e w' => e = .returned (.func (.func 30) #[] #[.pointer (some ⟨w.heap.size, 0, none⟩)]) ∧ w' = w.alloc (.cells #[sV s] 9) := by
  unfold sV
  go_enter Try.func26, Try.ntmps26
  go_wp2
  go_ret
  exact ⟨rfl, rfl⟩
theorem lines_any {w : World} (a : Option Addr) (cap : Nat) (s : Str) (hP : PB w a cap s) (hn : s.length ≤ 4000) :
    Calls Try.prog 19 #[.slice a s.length cap] w (PostS (lns s) w) := by
  obtain ⟨n, HN⟩ : ∃ n, Hid (s.length = n) := ⟨_, rfl⟩
  obtain ⟨T, HT⟩ : ∃ T, Hid (sV s = T) := ⟨_, rfl⟩
  have hcv : (convert 22 9 (.slice a n cap)).run Try.prog w = .ok T w := by rw [← HN.out, ← HT.out]; exact conv_str hP
  obtain ⟨w1, HW1⟩ : ∃ u, Hid (w.alloc (.cells #[T] 9) = u) := ⟨_, rfl⟩
  have C15 : Hid (Calls Try.prog 26 #[T] w fun e w' => e = .returned (.func (.func 30) #[] #[.pointer (some ⟨w.heap.size, 0, none⟩)]) ∧ w' = w1) := hid (by rw [← HW1.out, ← HT.out]; exact seq_call s w)
  have hb1 : Below w.heap.size w w1 := by rw [← HW1.out]; exact (Below.refl _ w).alloc (Nat.le_refl _) _
  have C14 : Hid (Calls Try.prog 25 #[.func (.func 30) #[] #[.pointer (some ⟨w.heap.size, 0, none⟩)]] w1 (PostK (lns s) w w1)) := hid (collect_any w.heap.size s hn w w1 hb1 (Nat.le_refl _) (by rw [← HW1.out, HT.out]; exact Boxed.new w 9 T))
  have HS1 : Hid (w.heap.size ≤ w1.heap.size) := hb1.size
  rw [HN.out]
  clear hP hn hb1
  go_enter Try.func19, Try.ntmps19
  go_wp2_with fail
  refine C15.out.mono ?_
  rintro e w2 ⟨rfl, rfl⟩
  go_wp2_with fail
  refine C14.out.mono ?_
  rintro e w3 ⟨v, rfl, ho, hb⟩
  have HO : Hid (w3.ownsRow w2.heap.size 9 1 v (lns s).length (fS (lns s))) := ho
  have HB : Hid (Below w.heap.size w w3) := hb
  clear ho hb
  go_wp2
  go_ret
  exact ⟨v, rfl, HB.out, base_mono HO.out HS1.out, HB.out.size⟩
end Go.Proofs.Ytakddciegnkpdaa
