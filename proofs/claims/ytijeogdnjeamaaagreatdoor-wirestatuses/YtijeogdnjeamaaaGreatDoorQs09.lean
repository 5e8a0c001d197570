import Derived.Test.YtijeogdnjeamaaaGreatDoorQs07
import Derived.Test.YtijeogdnjeamaaaGreatDoorQs08
import Derived.Shelf.Strconv.Itoa3
import Derived.Shelf.Pu.ParseUintPublic10
import Derived.Test.YtijeogdnjeamaaaGreatDoorProg
namespace Go.Proofs.YtijeogdnjeamaaaGreatDoor
open Go.RowKit
set_option linter.unusedVariables false
set_option linter.unusedSimpArgs false
theorem keyed9s : Maps.Keyed Tryz.prog 9 := Maps.string_keyed Tryz.underlying9
theorem key_txt (x : Str) (h : x.length ≤ 4000) : keyOf Tryz.prog 9 (sV x) = some (.string x) := by
  have h2 : (⟨x.toArray⟩ : ByteArray).size ≤ maxLen := by simp [ByteArray.size, maxLen]; omega
  unfold keyOf sV
  rw [Tryz.underlying9]
  simp [mapKey, Tryz.underlying9, h2]
theorem key_eqs {x y : Str} {kl : Lit} (h1 : keyOf Tryz.prog 9 (sV x) = some kl) (h2 : keyOf Tryz.prog 9 (sV y) = some kl) : x = y := txt_inj (keyed9s.inj h1 h2)
theorem und189 : Tryz.prog.underlying 189 = some (.map 9 185) := by kernel_rfl
def SS (w : World) (g n : Nat) (S : Str → Prop) : Prop := ∃ D, w.ownsMap (H := Unit) Tryz.prog 9 unitElem g n D ∧ ∀ x kl, keyOf Tryz.prog 9 (sV x) = some kl → (Maps.has D kl = true ↔ S x)
theorem SS.kept {w w' : World} {g n : Nat} {S : Str → Prop} {row : Option Nat} (h : SS w g n S) (hg : w.grownBy w' row) (hne : some g ≠ row) : SS w' g n S := by
  obtain ⟨D, h1, h2⟩ := h
  exact ⟨D, h1.kept hg hne, h2⟩
theorem SS.below {w w' : World} {g n : Nat} {S : Str → Prop} (h : SS w g n S) (hb : Below w.heap.size w w') : SS w' g n S := h.kept (row := none) (grown_of_below hb _) (by simp)
theorem SS.lt {w : World} {g n : Nat} {S : Str → Prop} (h : SS w g n S) : g < w.heap.size := by obtain ⟨D, h1, _⟩ := h; exact h1.lt
theorem ss_made (w : World) : SS (w.alloc (.map #[] 0)) w.heap.size 0 (fun _ => False) := ⟨_, World.ownsMap_made _ _ _ _, fun x kl _ => by simp [Maps.has]⟩
theorem SS.look {w : World} {g n : Nat} {S : Str → Prop} (h : SS w g n S) {x : Str} (hx : x.length ≤ 4000) : ∃ b : Bool, (b = true ↔ S x) ∧ (Instr.lookup 189 (.map (some g)) (sV x) true).run Tryz.prog w = .ok (.tuple #[.agg #[], .bool b]) w := by
  obtain ⟨D, h1, h2⟩ := h
  have hkl := key_txt x hx
  obtain ⟨v, ps, hrun, hv⟩ := h1.look_ok keyed9s und189 (zero185 w) (unitElem_mk (H := Unit)) hkl
  obtain ⟨rfl, _⟩ := unitElem_inv hv
  exact ⟨_, h2 x _ hkl, hrun⟩
theorem SS.put {w : World} {g n : Nat} {S : Str → Prop} (h : SS w g n S) (hn : n ≤ 100000) {x : Str} (hx : x.length ≤ 4000) : ∃ w', (Instr.mapUpdate 189 (.map (some g)) (sV x) (.agg #[])).run Tryz.prog w = .ok () w' ∧ SS w' g (n + 1) (fun y => y = x ∨ S y) ∧ w.grownBy w' (some g) := by
  obtain ⟨D, h1, h2⟩ := h
  have hkl := key_txt x hx
  obtain ⟨w', hrun, h3, h4⟩ := h1.update keyed9s und189 (by unfold maxLen; omega) hkl (unitElem_mk (H := Unit))
  refine ⟨w', hrun, ⟨_, h3, fun y ky hky => ?_⟩, h4⟩
  by_cases e : ky = .string x
  · subst e
    rw [Maps.has_put_same h1.isMap (keyed9s.key hkl)]
    simp [key_eqs hky hkl]
  · rw [Maps.has_put_other e, h2 y ky hky]
    constructor
    · exact .inr
    · rintro (rfl | h)
      · rw [hkl] at hky; exact absurd (Option.some.inj hky).symm e
      · exact h
theorem SS.congr {w : World} {g n : Nat} {S S' : Str → Prop} (h : SS w g n S) (he : ∀ y, S y ↔ S' y) : SS w g n S' := by
  obtain ⟨D, h1, h2⟩ := h
  exact ⟨D, h1, fun x kl hk => (h2 x kl hk).trans (he x)⟩
theorem isN_long {s : Str} (h : 60 < s.length) : Nm.isN s = false := by
  unfold Nm.isN Nm.docOk
  have h1 : (s == [72, 69, 65, 68]) = false := by
    simp
    intro e
    rw [e] at h
    simp at h
  rw [h1, decide_eq_false (by omega)]
  simp
theorem isN_len {s : Str} (h : Nm.isN s = true) : s.length ≤ 60 := by
  rcases Nat.lt_or_ge 60 s.length with h1 | h1
  · rw [isN_long h1] at h
    cases h
  · exact h1
theorem isN_bytes {s : Str} (h : Nm.isN s = true) (c : UInt8) (hc : c.toNat < 33) : c ∉ s := by
  intro hm
  by_cases hh : s = [72, 69, 65, 68]
  · subst hh
    simp at hm
    rcases hm with rfl | rfl | rfl | rfl <;> revert hc <;> decide
  · rw [Nm.isN_not hh] at h
    unfold Nm.prgOk at h
    simp only [Bool.and_eq_true] at h
    have h1 := List.all_eq_true.1 h.1.1.1.2 c hm
    unfold Nm.byteOk at h1
    simp only [Bool.and_eq_true, decide_eq_true_eq] at h1
    omega
set_option maxRecDepth 20000 in
theorem isName2 (s : Str) (hs : s.length ≤ 1000000000000000) (w : World) (hm : Nm.Mx w) : Calls Tryz.prog 29 #[.string ⟨s.toArray⟩] w fun e w' => e = .returned (.bool (Nm.isN s)) ∧ Below w.heap.size w w' := by
  by_cases h : s.length ≤ 60
  · exact Nm.isName_any s (by omega) w hm
  · rw [isN_long (by omega)]
    obtain ⟨S, HS⟩ : ∃ S : ByteArray, Hid (⟨s.toArray⟩ = S) := ⟨_, hid rfl⟩
    obtain ⟨n, HN⟩ : ∃ n, Hid (s.length = n) := ⟨_, rfl⟩
    have hsz : S.size = n := by rw [← HS.out, txt_len]; exact HN.out
    have he : (S.toList == [72, 69, 65, 68]) = false := by
      rw [← HS.out, Lib.toList_data]
      simp
      intro e
      rw [e] at h
      simp at h
    have hni : ¬ (n : Int) ≤ 60 := by have := HN.out; omega
    have HB : Hid (Below w.heap.size w w) := hid (Below.refl _ _)
    rw [HS.out]
    clear h
    go_enter Tryz.func29, Tryz.ntmps29
    go_wp2
    go_ret
    exact ⟨rfl, HB.out⟩
set_option maxRecDepth 20000 in
theorem refName2 (s : Str) (hs : s.length ≤ 1000000000000000) (w : World) : Calls Tryz.prog 32 #[.string ⟨s.toArray⟩] w fun e w' => e = .returned (.bool (Nm.isN s)) ∧ Below w.heap.size w w' := by
  by_cases h : s.length ≤ 60
  · exact Nm.refName_any s (by omega) w
  · rw [isN_long (by omega)]
    obtain ⟨S, HS⟩ : ∃ S : ByteArray, Hid (⟨s.toArray⟩ = S) := ⟨_, hid rfl⟩
    obtain ⟨n, HN⟩ : ∃ n, Hid (s.length = n) := ⟨_, rfl⟩
    have hsz : S.size = n := by rw [← HS.out, txt_len]; exact HN.out
    have he : (S.toList == [72, 69, 65, 68]) = false := by
      rw [← HS.out, Lib.toList_data]
      simp
      intro e
      rw [e] at h
      simp at h
    have hni : (60 : Int) < (n : Int) := by have := HN.out; omega
    have HB : Hid (Below w.heap.size w w) := hid (Below.refl _ _)
    rw [HS.out]
    clear h
    go_enter Tryz.func32, Tryz.ntmps32
    go_wp2
    go_ret
    exact ⟨rfl, HB.out⟩
abbrev osF (p : Nat) : Value := .func (.func 106) #[] #[.pointer (some ⟨p, 0, none⟩)]
abbrev onmF (c : Nat) : Value := .func (.func 78) #[] #[.pointer (some ⟨c, 0, none⟩)]
structure OnS (w : World) (c p g n : Nat) (S : Str → Prop) : Prop where
  b1 : Boxed w c 92 (osF p)
  b2 : Boxed w p 189 (.map (some g))
  ss : SS w g n S
  np : g ≠ p
  nc : g ≠ c
theorem OnS.kept {w w' : World} {c p g n : Nat} {S : Str → Prop} {row : Option Nat} (h : OnS w c p g n S) (hg : w.grownBy w' row) (h1 : row ≠ some g) (h2 : row ≠ some p) (h3 : row ≠ some c) : OnS w' c p g n S :=
  ⟨h.b1.kept hg (fun e => h3 e.symm), h.b2.kept hg (fun e => h2 e.symm), h.ss.kept hg (fun e => h1 e.symm), h.np, h.nc⟩
theorem OnS.congr {w : World} {c p g n : Nat} {S S' : Str → Prop} (h : OnS w c p g n S) (he : ∀ y, S y ↔ S' y) : OnS w c p g n S' := ⟨h.b1, h.b2, h.ss.congr he, h.np, h.nc⟩
set_option maxRecDepth 20000 in
theorem onceS_any (w : World) : Calls Tryz.prog 77 #[] w fun e w' => Below w.heap.size w w' ∧ ∃ p g, w.heap.size ≤ p ∧ w.heap.size ≤ g ∧ g ≠ p ∧ e = .returned (osF p) ∧ Boxed w' p 189 (.map (some g)) ∧ SS w' g 0 (fun _ => False) := by
  obtain ⟨G, HG⟩ : ∃ G, Hid (w.heap.size = G) := ⟨_, rfl⟩
  obtain ⟨w1, HW1⟩ : ∃ u, Hid (w.alloc (.map #[] 0) = u) := ⟨_, rfl⟩
  have hs1 : w1.heap.size = G + 1 := by rw [← HW1.out, ← HG.out]; exact size_alloc _ _
  obtain ⟨w2, HW2⟩ : ∃ u, Hid (w1.alloc (.cells #[.map none] 189) = u) := ⟨_, rfl⟩
  have HSI : Hid (SS w1 G 0 (fun _ => False)) := hid (by rw [← HW1.out, ← HG.out]; exact ss_made w)
  have hs2 : w2.heap.size = G + 1 + 1 := by rw [← HW2.out, ← hs1]; exact size_alloc _ _
  have hb2 : Boxed w2 (G + 1) 189 (.map none) := by rw [← HW2.out, ← hs1]; exact Boxed.new _ _ _
  obtain ⟨w3, HW3⟩ : ∃ u, Hid (w2.setCell ⟨G + 1, 0, none⟩ (.map (some G)) = u) := ⟨_, rfl⟩
  have hc3 : Boxed w3 (G + 1) 189 (.map (some G)) := by rw [← HW3.out]; exact hb2.set _
  have hg3 : w2.grownBy w3 (some (G + 1)) := by rw [← HW3.out]; exact grownBy_setCell' _ _ _
  have HB : Hid (Below G w w3) := hid (by
    have h1 : Below G w w2 := by
      rw [← HW2.out, ← HW1.out, ← HG.out]
      exact ((Below.refl _ w).alloc (Nat.le_refl _) _).alloc (by simp) _
    exact h1.grown hg3 (by rw [hs2]; omega) (fun k hk => by cases hk; omega))
  have HBX := hid hc3
  have HSS : Hid (SS w3 G 0 (fun _ => False)) := hid ((HSI.out.kept (row := none) (by rw [← HW2.out]; exact World.grownBy_alloc _ _ _) (by simp)).kept hg3 (by simp))
  have hc2 := hb2.cell
  have hf2 := hb2.frozen
  have al1 : w.alloc (.map #[] 0) = w1 := HW1.out
  have al2 : w1.alloc (.cells #[.map none] 189) = w2 := HW2.out
  have al3 : w2.setCell ⟨G + 1, 0, none⟩ (.map (some G)) = w3 := HW3.out
  rw [HG.out]
  clear hb2 hc3 hg3
  have hmk : (Instr.makeMap 189 none).run Tryz.prog w = .ok (.map (some G)) w1 := by
    rw [← HG.out, ← HW1.out]
    kernel_rfl
  have hs0 : w.heap.size = G := HG.out
  go_enter Tryz.func77, Tryz.ntmps77
  go_wp2
  go_ret
  exact ⟨HB.out, G + 1, G, by omega, Nat.le_refl _, by omega, rfl, HBX.out, HSS.out⟩
def PostOS (s : Str) (p g n : Nat) (S : Str → Prop) (w : World) (e : Ending) (w' : World) : Prop :=
  w.grownBy w' (some g) ∧ ((S s ∧ e = .returned (.iface 37 (.int .i64 111))) ∨ (¬ S s ∧ e = .returned .nilIface ∧ SS w' g (n + 1) (fun y => y = s ∨ S y)))
set_option maxRecDepth 20000 in
theorem onceSF_any {w : World} {p g n : Nat} {S : Str → Prop} (hb : Boxed w p 189 (.map (some g))) (h : SS w g n S) (hn : n ≤ 100000) (s : Str) (hs : s.length ≤ 4000) : Calls Tryz.prog 106 #[.string ⟨s.toArray⟩, .pointer (some ⟨p, 0, none⟩)] w (PostOS s p g n S w) := by
  obtain ⟨X, HX⟩ : ∃ X : ByteArray, Hid (⟨s.toArray⟩ = X) := ⟨_, hid rfl⟩
  obtain ⟨b, hbb, hlk⟩ := h.look hs
  have HLK : Hid ((Instr.lookup 189 (.map (some g)) (.string X) true).run Tryz.prog w = .ok (.tuple #[.agg #[], .bool b]) w) := hid (by rw [← HX.out]; exact hlk)
  have hz185 : ∀ w : World, (zeroValue 185).run Tryz.prog w = .ok (.agg #[]) w := zero185
  obtain ⟨w2, HW2⟩ : ∃ w2, Hid (w.alloc (.cells #[] 185) = w2) := ⟨_, rfl⟩
  have hg2 : w.grownBy w2 none := by rw [← HW2.out]; exact World.grownBy_alloc _ _ _
  have hp1 := hb.cell
  have hp2 := (hb.kept hg2 (by simp)).cell
  have al2 : w.alloc (.cells #[] 185) = w2 := HW2.out
  obtain ⟨w3, hup, hsi3, hg3⟩ := (h.kept hg2 (by simp)).put hn hs
  have HUP : Hid ((Instr.mapUpdate 189 (.map (some g)) (.string X) (.agg #[])).run Tryz.prog w2 = .ok () w3) := hid (by rw [← HX.out]; exact hup)
  have HG2 := hid hg2
  have HG3 : Hid (w.grownBy w3 (some g)) := hid ((hg2.but _).trans hg3)
  have HS3 := hid hsi3
  rw [HX.out]
  clear hlk h hg2 hup hsi3 hg3 hb
  cases b with
  | true =>
    have HSX : Hid (S s) := hid (hbb.1 rfl)
    clear hbb
    go_enter Tryz.func106, Tryz.ntmps106
    go_wp2_with (first
      | refine wpList_run rfl _ (exec_lookup rfl rfl rfl HLK.out) ?_
      | refine wpList_skip rfl (exec_update rfl rfl rfl rfl HUP.out) ?_
      | fail)
    go_ret
    exact ⟨HG2.out.but _, .inl ⟨HSX.out, rfl⟩⟩
  | false =>
    have HSX : Hid (¬ S s) := hid (fun hs => by have := hbb.2 hs; cases this)
    clear hbb
    go_enter Tryz.func106, Tryz.ntmps106
    go_wp2_with (first
      | refine wpList_run rfl _ (exec_lookup rfl rfl rfl HLK.out) ?_
      | refine wpList_skip rfl (exec_update rfl rfl rfl rfl HUP.out) ?_
      | fail)
    go_ret
    exact ⟨HG3.out, .inr ⟨HSX.out, rfl, HS3.out⟩⟩
set_option maxRecDepth 20000 in
theorem onceNamed_any (w : World) : Calls Tryz.prog 43 #[] w fun e w' => Below w.heap.size w w' ∧ ∃ c p g, w.heap.size ≤ g ∧ e = .returned (onmF c) ∧ OnS w' c p g 0 (fun _ => False) := by
  obtain ⟨G, HG⟩ : ∃ G, Hid (w.heap.size = G) := ⟨_, rfl⟩
  have C77 := hid (onceS_any w)
  rw [HG.out] at C77
  rw [HG.out]
  go_enter Tryz.func43, Tryz.ntmps43
  go_wp2_with fail
  refine C77.out.mono ?_
  rintro e w1 ⟨hb1, p, g, hp, hg, hgp, rfl, hbx, hss⟩
  obtain ⟨R, HR⟩ : ∃ n, Hid (w1.heap.size = n) := ⟨_, rfl⟩
  obtain ⟨w3, HW3⟩ : ∃ u, Hid (w1.alloc (.cells #[.nilFunc] 92) = u) := ⟨_, rfl⟩
  obtain ⟨w4, HW4⟩ : ∃ u, Hid (w3.setCell ⟨R, 0, none⟩ (osF p) = u) := ⟨_, rfl⟩
  have hbx3 : Boxed w3 R 92 .nilFunc := by rw [← HW3.out, ← HR.out]; exact Boxed.new _ _ _
  have hbx4 : Boxed w4 R 92 (osF p) := by rw [← HW4.out]; exact hbx3.set _
  have hc3 := hbx3.cell
  have hf3 := hbx3.frozen
  have hg3 : w1.grownBy w3 none := by rw [← HW3.out]; exact World.grownBy_alloc _ _ _
  have hg4 : w3.grownBy w4 (some R) := by rw [← HW4.out]; exact grownBy_setCell' _ _ _
  have e1 := hss.lt
  have e2 := hbx.lt
  have e3 := HR.out
  have e4 := hb1.size
  have e5 := HG.out
  have hst : (store ⟨R, 0, none⟩ (osF p)).run Tryz.prog w3 = .ok () w4 := by
    rw [run_store _ _ _ _ _ rfl, hc3]
    simp [hf3, HW4.out]
  have HON : Hid (OnS w4 R p g 0 (fun _ => False)) := hid ⟨hbx4, (hbx.kept hg3 (by simp)).kept hg4 (fun e => by cases e; omega), (hss.kept hg3 (by simp)).kept hg4 (fun e => by cases e; omega), hgp, by omega⟩
  have HB4 : Hid (Below G w w4) := hid ((hb1.grown hg3 (by omega) (fun k e => by cases e)).grown hg4 (by have := hg3.size; omega) (fun k e => by cases e; omega))
  have HGG : Hid (G ≤ g) := hid hg
  have al3 : w1.alloc (.cells #[.nilFunc] 92) = w3 := HW3.out
  have al4 : w3.setCell ⟨R, 0, none⟩ (osF p) = w4 := HW4.out
  have hsR : w1.heap.size = R := HR.out
  clear hbx3 hbx4 hg3 hg4 e1 e2 e3 e4 e5 hb1 hbx hss hp hg hgp
  simp only [osF] at al4 hst ⊢
  go_wp2
  go_ret
  exact ⟨HB4.out, R, p, g, HGG.out, rfl, HON.out⟩
def PostNm (s : Str) (c p g n : Nat) (S : Str → Prop) (w : World) (e : Ending) (w' : World) : Prop :=
  w.grownBy w' (some g) ∧ ((¬ (Nm.isN s = true ∧ ¬ S s) ∧ e = .returned (.iface 37 (.int .i64 111))) ∨ ((Nm.isN s = true ∧ ¬ S s) ∧ e = .returned .nilIface ∧ OnS w' c p g (n + 1) (fun y => y = s ∨ S y)))
set_option maxRecDepth 20000 in
theorem namedF_any {w : World} {c p g n : Nat} {S : Str → Prop} (h : OnS w c p g n S) (hn : n ≤ 100000) (s : Str) (hs : s.length ≤ 1000000000000000) (hm : Nm.Mx w) : Calls Tryz.prog 78 #[.string ⟨s.toArray⟩, .pointer (some ⟨c, 0, none⟩)] w (PostNm s c p g n S w) := by
  obtain ⟨X, HX⟩ : ∃ X : ByteArray, Hid (⟨s.toArray⟩ = X) := ⟨_, hid rfl⟩
  have C29 : Hid (Calls Tryz.prog 29 #[.string X] w fun e w' => e = .returned (.bool (Nm.isN s)) ∧ Below w.heap.size w w') := hid (by rw [← HX.out]; exact isName2 s hs w hm)
  have HON := hid h
  rw [HX.out]
  clear h hm
  go_enter Tryz.func78, Tryz.ntmps78
  go_wp2_with fail
  refine C29.out.mono ?_
  rintro e w1 ⟨rfl, hb1⟩
  have hg1 := grown_of_below hb1 none
  have hon1 := HON.out.kept hg1 (by simp) (by simp) (by simp)
  have HON1 := hid hon1
  have HG1 := hid hg1
  have hc1 := hon1.b1.cell
  by_cases hN : Nm.isN s = true
  · have HN := hid hN
    have C106 : Hid (Calls Tryz.prog 106 #[.string X, .pointer (some ⟨p, 0, none⟩)] w1 (PostOS s p g n S w1)) := hid (by
      rw [← HX.out]
      exact onceSF_any hon1.b2 hon1.ss hn s (by have := isN_len hN; omega))
    rw [hN]
    clear hN hon1 hg1 hb1
    simp only [osF] at hc1
    go_wp2_with fail
    refine C106.out.mono ?_
    rintro e w2 ⟨hg2, ⟨hS, rfl⟩ | ⟨hS, rfl, hss⟩⟩
    · have HG2 : Hid (w.grownBy w2 (some g)) := hid ((HG1.out.but _).trans hg2)
      have HNS : Hid (¬ (Nm.isN s = true ∧ ¬ S s)) := hid (fun h => h.2 hS)
      clear hg2 hS
      go_wp2
      go_ret
      exact ⟨HG2.out, .inl ⟨HNS.out, rfl⟩⟩
    · have HG2 : Hid (w.grownBy w2 (some g)) := hid ((HG1.out.but _).trans hg2)
      have HYS : Hid (Nm.isN s = true ∧ ¬ S s) := hid ⟨HN.out, hS⟩
      have HO2 : Hid (OnS w2 c p g (n + 1) (fun y => y = s ∨ S y)) := hid ⟨HON1.out.b1.kept hg2 (fun e => HON1.out.nc (by cases e; rfl)), HON1.out.b2.kept hg2 (fun e => HON1.out.np (by cases e; rfl)), hss, HON1.out.np, HON1.out.nc⟩
      clear hg2 hS hss
      go_wp2
      go_ret
      exact ⟨HG2.out, .inr ⟨HYS.out, rfl, HO2.out⟩⟩
  · have hNf : Nm.isN s = false := by simpa using hN
    have HNS : Hid (¬ (Nm.isN s = true ∧ ¬ S s)) := hid (fun h => hN h.1)
    have HG2 : Hid (w.grownBy w1 (some g)) := hid (HG1.out.but _)
    rw [hNf]
    clear hN hNf hon1 hg1 hb1 hc1
    go_wp2
    go_ret
    exact ⟨HG2.out, .inl ⟨HNS.out, rfl⟩⟩
end Go.Proofs.YtijeogdnjeamaaaGreatDoor
namespace Go.Proofs
open Go.Shelf
def Tryz.laysM171_ren : Go.Shelf.Ren := ⟨fun | 171 => 85 | 243 => 110 | 246 => 127 | 283 => 146 | 284 => 147 | 285 => 148 | 286 => 149 | 129 => 167 | 317 => 166 | 318 => 168 | 319 => 169 | 320 => 170 | 337 => 176 | 338 => 177 | n => n, fun | 3 => 3 | 9 => 9 | 2 => 2 | 4 => 4 | 171 => 231 | 0 => 0 | 53 => 210 | 37 => 25 | 5 => 5 | 173 => 234 | 212 => 251 | 51 => 239 | 20 => 20 | 213 => 252 | 46 => 114 | 232 => 268 | 233 => 269 | n => n, fun | 17 => 2 | 18 => 7 | 19 => 8 | n => n⟩
theorem Tryz.laysM171 : Go.Proofs.LaysM.n171 Tryz.prog Tryz.laysM171_ren := {
  mixed := by kernel_rfl
  f129 := Tryz.func167.trans (congrArg some (by kernel_rfl))
  f171 := Tryz.func85.trans (congrArg some (by kernel_rfl))
  f243 := Tryz.func110.trans (congrArg some (by kernel_rfl))
  f246 := Tryz.func127.trans (congrArg some (by kernel_rfl))
  f283 := Tryz.func146.trans (congrArg some (by kernel_rfl))
  f284 := Tryz.func147.trans (congrArg some (by kernel_rfl))
  f285 := Tryz.func148.trans (congrArg some (by kernel_rfl))
  f286 := Tryz.func149.trans (congrArg some (by kernel_rfl))
  f317 := Tryz.func166.trans (congrArg some (by kernel_rfl))
  f318 := Tryz.func168.trans (congrArg some (by kernel_rfl))
  f319 := Tryz.func169.trans (congrArg some (by kernel_rfl))
  f320 := Tryz.func170.trans (congrArg some (by kernel_rfl))
  f337 := Tryz.func176.trans (congrArg some (by kernel_rfl))
  f338 := Tryz.func177.trans (congrArg some (by kernel_rfl))
  t0 := Tryz.underlying0
  a0 := Tryz.isAgg0
  z0 := Tryz.sizeOf0
  v0 := Tryz.zeroValue0
  t2 := Tryz.underlying2
  a2 := Tryz.isAgg2
  z2 := Tryz.sizeOf2
  v2 := Tryz.zeroValue2
  t3 := Tryz.underlying3
  a3 := Tryz.isAgg3
  z3 := Tryz.sizeOf3
  v3 := Tryz.zeroValue3
  t4 := Tryz.underlying4
  a4 := Tryz.isAgg4
  z4 := Tryz.sizeOf4
  v4 := Tryz.zeroValue4
  t5 := Tryz.underlying5
  a5 := Tryz.isAgg5
  z5 := Tryz.sizeOf5
  v5 := Tryz.zeroValue5
  t9 := Tryz.underlying9
  a9 := Tryz.isAgg9
  z9 := Tryz.sizeOf9
  v9 := Tryz.zeroValue9
  t20 := Tryz.underlying20
  a20 := Tryz.isAgg20
  z20 := Tryz.sizeOf20
  v20 := Tryz.zeroValue20
  t37 := Tryz.underlying25
  a37 := Tryz.isAgg25
  z37 := Tryz.sizeOf25
  v37 := Tryz.zeroValue25
  t46 := Tryz.underlying114
  a46 := Tryz.isAgg114
  z46 := Tryz.sizeOf114
  v46 := Tryz.zeroValue114
  t51 := Tryz.underlying239
  a51 := Tryz.isAgg239
  z51 := Tryz.sizeOf239
  v51 := Tryz.zeroValue239
  t53 := Tryz.underlying210
  a53 := Tryz.isAgg210
  z53 := Tryz.sizeOf210
  v53 := Tryz.zeroValue210
  t171 := Tryz.underlying231
  a171 := Tryz.isAgg231
  z171 := Tryz.sizeOf231
  v171 := Tryz.zeroValue231
  t173 := Tryz.underlying234
  a173 := Tryz.isAgg234
  z173 := Tryz.sizeOf234
  v173 := Tryz.zeroValue234
  t212 := Tryz.underlying251
  a212 := Tryz.isAgg251
  z212 := Tryz.sizeOf251
  v212 := Tryz.zeroValue251
  t213 := Tryz.underlying252
  a213 := Tryz.isAgg252
  z213 := Tryz.sizeOf252
  t232 := Tryz.underlying268
  a232 := Tryz.isAgg268
  z232 := Tryz.sizeOf268
  v232 := Tryz.zeroValue268
  t233 := Tryz.underlying269
  a233 := Tryz.isAgg269
  z233 := Tryz.sizeOf269
  v233 := Tryz.zeroValue269
  g17 := by kernel_rfl
  g18 := by kernel_rfl
  g19 := by kernel_rfl
  i0 := by kernel_rfl
  i2 := by kernel_rfl
  i3 := by kernel_rfl
  i4 := by kernel_rfl
  i5 := by kernel_rfl
  i9 := by kernel_rfl
  i20 := by kernel_rfl
  i37 := by kernel_rfl
  i46 := by kernel_rfl
  i51 := by kernel_rfl
  i53 := by kernel_rfl
  i171 := by kernel_rfl
  i173 := by kernel_rfl
  i212 := by kernel_rfl
  i232 := by kernel_rfl
  i233 := by kernel_rfl
  m17 := by kernel_rfl
  m18 := by kernel_rfl
  m19 := by kernel_rfl }
def Tryz.laysPu14_ren : Go.Shelf.Ren := ⟨fun | 14 => 126 | 16 => 144 | 17 => 145 | 19 => 160 | 20 => 161 | 21 => 162 | 22 => 163 | 23 => 164 | 24 => 165 | 25 => 174 | 27 => 85 | 26 => 175 | 28 => 110 | 29 => 127 | 30 => 146 | 31 => 147 | 32 => 148 | 33 => 149 | 35 => 167 | 34 => 166 | 36 => 168 | 37 => 169 | 38 => 170 | 39 => 176 | 40 => 177 | n => n, fun | 9 => 9 | 3 => 3 | 22 => 210 | 24 => 27 | 25 => 211 | 4 => 4 | 34 => 246 | 5 => 5 | 36 => 114 | 37 => 25 | 0 => 0 | 39 => 247 | 21 => 21 | 44 => 259 | 47 => 245 | 50 => 267 | 48 => 265 | 2 => 2 | 52 => 231 | 55 => 234 | 59 => 251 | 60 => 239 | 20 => 20 | 61 => 252 | 65 => 268 | 66 => 269 | 67 => 229 | n => n, fun | 0 => 3 | 1 => 4 | 2 => 2 | 3 => 7 | 4 => 8 | n => n⟩
theorem Tryz.laysPu14 : Go.Proofs.LaysPu.n14 Tryz.prog Tryz.laysPu14_ren := {
  mixed := by kernel_rfl
  f14 := Tryz.func126.trans (congrArg some (by kernel_rfl))
  f16 := Tryz.func144.trans (congrArg some (by kernel_rfl))
  f17 := Tryz.func145.trans (congrArg some (by kernel_rfl))
  f19 := Tryz.func160.trans (congrArg some (by kernel_rfl))
  f20 := Tryz.func161.trans (congrArg some (by kernel_rfl))
  f21 := Tryz.func162.trans (congrArg some (by kernel_rfl))
  f22 := Tryz.func163.trans (congrArg some (by kernel_rfl))
  f23 := Tryz.func164.trans (congrArg some (by kernel_rfl))
  f24 := Tryz.func165.trans (congrArg some (by kernel_rfl))
  f25 := Tryz.func174.trans (congrArg some (by kernel_rfl))
  f26 := Tryz.func175.trans (congrArg some (by kernel_rfl))
  f27 := Tryz.func85.trans (congrArg some (by kernel_rfl))
  f28 := Tryz.func110.trans (congrArg some (by kernel_rfl))
  f29 := Tryz.func127.trans (congrArg some (by kernel_rfl))
  f30 := Tryz.func146.trans (congrArg some (by kernel_rfl))
  f31 := Tryz.func147.trans (congrArg some (by kernel_rfl))
  f32 := Tryz.func148.trans (congrArg some (by kernel_rfl))
  f33 := Tryz.func149.trans (congrArg some (by kernel_rfl))
  f34 := Tryz.func166.trans (congrArg some (by kernel_rfl))
  f35 := Tryz.func167.trans (congrArg some (by kernel_rfl))
  f36 := Tryz.func168.trans (congrArg some (by kernel_rfl))
  f37 := Tryz.func169.trans (congrArg some (by kernel_rfl))
  f38 := Tryz.func170.trans (congrArg some (by kernel_rfl))
  f39 := Tryz.func176.trans (congrArg some (by kernel_rfl))
  f40 := Tryz.func177.trans (congrArg some (by kernel_rfl))
  t0 := Tryz.underlying0
  a0 := Tryz.isAgg0
  z0 := Tryz.sizeOf0
  v0 := Tryz.zeroValue0
  i0 := by kernel_rfl
  t2 := Tryz.underlying2
  a2 := Tryz.isAgg2
  z2 := Tryz.sizeOf2
  v2 := Tryz.zeroValue2
  i2 := by kernel_rfl
  t3 := Tryz.underlying3
  a3 := Tryz.isAgg3
  z3 := Tryz.sizeOf3
  v3 := Tryz.zeroValue3
  i3 := by kernel_rfl
  t4 := Tryz.underlying4
  a4 := Tryz.isAgg4
  z4 := Tryz.sizeOf4
  v4 := Tryz.zeroValue4
  i4 := by kernel_rfl
  t5 := Tryz.underlying5
  a5 := Tryz.isAgg5
  z5 := Tryz.sizeOf5
  v5 := Tryz.zeroValue5
  i5 := by kernel_rfl
  t9 := Tryz.underlying9
  a9 := Tryz.isAgg9
  z9 := Tryz.sizeOf9
  v9 := Tryz.zeroValue9
  i9 := by kernel_rfl
  t20 := Tryz.underlying20
  a20 := Tryz.isAgg20
  z20 := Tryz.sizeOf20
  v20 := Tryz.zeroValue20
  i20 := by kernel_rfl
  t21 := Tryz.underlying21
  a21 := Tryz.isAgg21
  z21 := Tryz.sizeOf21
  v21 := Tryz.zeroValue21
  i21 := by kernel_rfl
  t22 := Tryz.underlying210
  a22 := Tryz.isAgg210
  z22 := Tryz.sizeOf210
  v22 := Tryz.zeroValue210
  i22 := by kernel_rfl
  t24 := Tryz.underlying27
  a24 := Tryz.isAgg27
  z24 := Tryz.sizeOf27
  v24 := Tryz.zeroValue27
  i24 := by kernel_rfl
  t25 := Tryz.underlying211
  a25 := Tryz.isAgg211
  z25 := Tryz.sizeOf211
  v25 := Tryz.zeroValue211
  i25 := by kernel_rfl
  t34 := Tryz.underlying246
  a34 := Tryz.isAgg246
  z34 := Tryz.sizeOf246
  v34 := Tryz.zeroValue246
  i34 := by kernel_rfl
  c34 := by kernel_rfl
  t36 := Tryz.underlying114
  a36 := Tryz.isAgg114
  z36 := Tryz.sizeOf114
  v36 := Tryz.zeroValue114
  i36 := by kernel_rfl
  t37 := Tryz.underlying25
  a37 := Tryz.isAgg25
  z37 := Tryz.sizeOf25
  v37 := Tryz.zeroValue25
  i37 := by kernel_rfl
  t39 := Tryz.underlying247
  a39 := Tryz.isAgg247
  z39 := Tryz.sizeOf247
  v39 := Tryz.zeroValue247
  i39 := by kernel_rfl
  t44 := Tryz.underlying259
  a44 := Tryz.isAgg259
  z44 := Tryz.sizeOf259
  v44 := Tryz.zeroValue259
  i44 := by kernel_rfl
  t47 := Tryz.underlying245
  a47 := Tryz.isAgg245
  z47 := Tryz.sizeOf245
  v47 := Tryz.zeroValue245
  i47 := by kernel_rfl
  t48 := Tryz.underlying265
  a48 := Tryz.isAgg265
  z48 := Tryz.sizeOf265
  v48 := Tryz.zeroValue265
  i48 := by kernel_rfl
  t50 := Tryz.underlying267
  a50 := Tryz.isAgg267
  z50 := Tryz.sizeOf267
  v50 := Tryz.zeroValue267
  i50 := by kernel_rfl
  t52 := Tryz.underlying231
  a52 := Tryz.isAgg231
  z52 := Tryz.sizeOf231
  v52 := Tryz.zeroValue231
  i52 := by kernel_rfl
  t55 := Tryz.underlying234
  a55 := Tryz.isAgg234
  z55 := Tryz.sizeOf234
  v55 := Tryz.zeroValue234
  i55 := by kernel_rfl
  t59 := Tryz.underlying251
  a59 := Tryz.isAgg251
  z59 := Tryz.sizeOf251
  v59 := Tryz.zeroValue251
  i59 := by kernel_rfl
  t60 := Tryz.underlying239
  a60 := Tryz.isAgg239
  z60 := Tryz.sizeOf239
  v60 := Tryz.zeroValue239
  i60 := by kernel_rfl
  t61 := Tryz.underlying252
  a61 := Tryz.isAgg252
  z61 := Tryz.sizeOf252
  t65 := Tryz.underlying268
  a65 := Tryz.isAgg268
  z65 := Tryz.sizeOf268
  v65 := Tryz.zeroValue268
  i65 := by kernel_rfl
  t66 := Tryz.underlying269
  a66 := Tryz.isAgg269
  z66 := Tryz.sizeOf269
  v66 := Tryz.zeroValue269
  i66 := by kernel_rfl
  t67 := Tryz.underlying229
  a67 := Tryz.isAgg229
  z67 := Tryz.sizeOf229
  v67 := Tryz.zeroValue229
  i67 := by kernel_rfl
  g0 := by kernel_rfl
  m0 := by kernel_rfl
  g1 := by kernel_rfl
  m1 := by kernel_rfl
  g2 := by kernel_rfl
  m2 := by kernel_rfl
  g3 := by kernel_rfl
  m3 := by kernel_rfl
  g4 := by kernel_rfl
  m4 := by kernel_rfl }
end Go.Proofs
namespace Go.Proofs.YtijeogdnjeamaaaGreatDoor
open Go.RowKit
set_option linter.unusedVariables false
set_option linter.unusedSimpArgs false
abbrev Sta := Str × Int
def encSt (x : Sta) : List Value := [sV x.1, .int .i64 x.2]
def st0 : Sta := ([], 0)
def okSt (x : Sta) : Prop := Nm.isN x.1 = true ∧ 0 ≤ x.2 ∧ x.2 ≤ 999
def okWo : Str := [111, 107, 32]
def ngWo : Str := [110, 103, 32]
def dgt (d : Nat) : UInt8 := UInt8.ofNat (48 + d)
def d3 (n : Nat) : Str := if n < 10 then [dgt n] else if n < 100 then [dgt (n / 10), dgt (n % 10)] else [dgt (n / 100), dgt (n / 10 % 10), dgt (n % 10)]
theorem d3_itoa (n : Nat) (h : n ≤ 999) : Lib.itoa (n : Int) = d3 n := by
  unfold Lib.itoa d3 dgt
  rw [if_neg (by omega), Int.toNat_natCast]
  by_cases h1 : n < 10
  · rw [if_pos h1, Lib.decDigits_one h1]
  · rw [if_neg h1]
    by_cases h2 : n < 100
    · rw [if_pos h2, Lib.decDigits_two h1 h2]
    · rw [if_neg h2, Lib.decDigits, dif_neg h1, Lib.decDigits_two (by omega) (by omega), Nat.div_div_eq_div_mul]
      rfl
theorem dgt_nat (d : Nat) (h : d < 10) : (dgt d).toNat = 48 + d := by
  unfold dgt
  rw [UInt8.toNat_ofNat']
  omega
theorem parse_dgt (acc d : Nat) (r : Str) (h : d < 10) (ha : acc * 10 + d ≤ 65535) : Lib.parseUintM (2 ^ 16 - 1) acc (dgt d :: r) = Lib.parseUintM (2 ^ 16 - 1) (acc * 10 + d) r := by
  have h1 := dgt_nat d h
  rw [Lib.parseUintM, h1, if_pos (by omega), if_neg (by omega), if_neg (by omega)]
  congr 1
  omega
theorem d3_parse (n : Nat) (h : n ≤ 999) : Lib.parseUintB 16 (d3 n) = .ok n := by
  unfold Lib.parseUintB d3
  by_cases h1 : n < 10
  · rw [if_pos h1, if_neg (by simp), parse_dgt 0 n [] h1 (by omega)]
    simp [Lib.parseUintM]
  · rw [if_neg h1]
    by_cases h2 : n < 100
    · rw [if_pos h2, if_neg (by simp), parse_dgt 0 (n / 10) _ (by omega) (by omega), parse_dgt _ (n % 10) _ (by omega) (by omega)]
      simp [Lib.parseUintM]
      omega
    · rw [if_neg h2, if_neg (by simp), parse_dgt 0 (n / 100) _ (by omega) (by omega), parse_dgt _ (n / 10 % 10) _ (by omega) (by omega), parse_dgt _ (n % 10) _ (by omega) (by omega)]
      simp [Lib.parseUintM]
      omega
theorem d3_no (n : Nat) (h : n ≤ 999) (c : UInt8) (hc : c.toNat < 48) : c ∉ d3 n := by
  have hd : ∀ d, d < 10 → c ≠ dgt d := fun d hd e => by
    have := dgt_nat d hd
    rw [← e] at this
    omega
  unfold d3
  split
  · simp; exact hd _ (by omega)
  · split
    · simp; exact ⟨hd _ (by omega), hd _ (by omega)⟩
    · simp; exact ⟨hd _ (by omega), hd _ (by omega), hd _ (by omega)⟩
theorem d3_len (n : Nat) : (d3 n).length ≤ 3 := by
  unfold d3
  split
  · simp
  · split <;> simp
def stT (x : Sta) : Str := if x.2 = 0 then okWo ++ x.1 else ngWo ++ x.1 ++ [32] ++ d3 x.2.toNat
def stL (l : List Sta) : List Str := l.map stT ++ [[]]
def stB (l : List Sta) : Str := pktL ((stL l).map tx)
def OkS (l : List Sta) : Prop := (∀ x ∈ l, okSt x) ∧ (l.map (·.1)).Nodup ∧ l.length ≤ 500
theorem stT_len {x : Sta} (h : okSt x) : (stT x).length ≤ 70 := by
  have h1 := isN_len h.1
  have h2 := d3_len x.2.toNat
  unfold stT
  split
  · rw [List.length_append]; simp [okWo]; omega
  · rw [List.length_append, List.length_append, List.length_append]; simp [ngWo]; omega
theorem stL_len {l : List Sta} (h : ∀ x ∈ l, okSt x) : ∀ t ∈ stL l, t.length ≤ 70 := by
  intro t ht
  rcases List.mem_append.1 ht with ht | ht
  · obtain ⟨x, hx, rfl⟩ := List.mem_map.1 ht
    exact stT_len (h x hx)
  · rw [List.mem_singleton.1 ht]; simp
theorem stL_ok {l : List Sta} (h : ∀ x ∈ l, okSt x) : okL ((stL l).map tx) := by
  intro t ht
  obtain ⟨u, hu, rfl⟩ := List.mem_map.1 ht
  have := stL_len h u hu
  have := tx_len u
  omega
theorem index_at (n d : Str) (h : (32 : UInt8) ∉ n) : Lib.index (n ++ 32 :: d) [32] = n.length := by
  refine Lib.index_first (by rw [List.length_append]; omega) ?_ (fun j hj => ?_)
  · unfold Lib.occAt
    rw [List.drop_left]
    simp
  · unfold Lib.occAt
    have e1 : n.drop j = n[j] :: n.drop (j + 1) := List.drop_eq_getElem_cons hj
    have hne : ¬ (32 : UInt8) = n[j] := fun e => h (by rw [e]; exact List.getElem_mem _)
    rw [List.drop_append_of_le_length (by omega), e1, List.cons_append, List.isPrefixOf, beq_false_of_ne hne]
    rfl
theorem cut_at (n d : Str) (h : (32 : UInt8) ∉ n) : Lib.cut (n ++ 32 :: d) [32] = (n, d, true) := by
  unfold Lib.cut
  rw [index_at n d h, if_pos (by omega)]
  simp
theorem parseM_le : ∀ (l : Str) (acc v : Nat), acc ≤ 65535 → Lib.parseUintM (2 ^ 16 - 1) acc l = .ok v → v ≤ 65535
  | [], acc, v, h, e => by rw [Lib.parseUintM] at e; cases e; exact h
  | c :: r, acc, v, h, e => by
    rw [Lib.parseUintM] at e
    split at e
    · split at e
      · cases e
      · split at e
        · cases e
        · exact parseM_le r _ v (by omega) e
    · cases e
theorem parseU_le (l : Str) (v : Nat) (h : Lib.parseUintB 16 l = .ok v) : v ≤ 65535 := by
  unfold Lib.parseUintB at h
  split at h
  · cases h
  · exact parseM_le l 0 v (by omega) h
def rs1 (t : Str) : Option Sta := if Lib.hasPrefix t okWo = true then some (Lib.trimPrefix t okWo, 0) else match Lib.parseUintB 16 (Lib.cut (trP ngWo t) [32]).2.1 with
  | .ok v => some ((Lib.cut (trP ngWo t) [32]).1, (v : Int))
  | _ => none
theorem rs1_stT {x : Sta} (h : okSt x) : rs1 (stT x) = some x := by
  unfold stT
  by_cases h0 : x.2 = 0
  · rw [if_pos h0, rs1]
    have h1 : Lib.hasPrefix (okWo ++ x.1) okWo = true := by simp [Lib.hasPrefix]
    rw [if_pos h1, Lib.trimPrefix, if_pos h1, List.drop_left]
    obtain ⟨a, b⟩ := x
    simp at h0
    rw [h0]
  · rw [if_neg h0, rs1]
    have h1 : ¬ Lib.hasPrefix (ngWo ++ x.1 ++ [32] ++ d3 x.2.toNat) okWo = true := by simp [Lib.hasPrefix, ngWo, okWo]
    have h2 : trP ngWo (ngWo ++ x.1 ++ [32] ++ d3 x.2.toNat) = x.1 ++ 32 :: d3 x.2.toNat := by
      rw [List.append_assoc, List.append_assoc, trP_app]
      simp
    have hr := h.2
    rw [if_neg h1, h2, cut_at x.1 _ (isN_bytes h.1 32 (by decide))]
    simp only
    rw [d3_parse x.2.toNat (by omega)]
    obtain ⟨a, b⟩ := x
    simp at hr ⊢
    omega
theorem rs1_nil : rs1 [] = none := by decide
def rdS : List Str → List Sta × List Str
  | [] => ([], [])
  | t :: ts => match rs1 t with
    | some x => (x :: (rdS ts).1, (rdS ts).2)
    | none => ([], t :: ts)
theorem rdS_some {t : Str} {ts : List Str} {x : Sta} (h : rs1 t = some x) : rdS (t :: ts) = (x :: (rdS ts).1, (rdS ts).2) := by rw [rdS, h]
theorem rdS_none {t : Str} {ts : List Str} (h : rs1 t = none) : rdS (t :: ts) = ([], t :: ts) := by rw [rdS, h]
theorem rdS_map (r : List Str) : ∀ l : List Sta, (∀ x ∈ l, okSt x) → rdS (l.map stT ++ r) = (l ++ (rdS r).1, (rdS r).2)
  | [], _ => rfl
  | x :: l, h => by
    have ih := rdS_map r l (fun y hy => h y (by simp [hy]))
    have e : List.map stT (x :: l) ++ r = stT x :: (l.map stT ++ r) := rfl
    rw [e, rdS_some (rs1_stT (h x (by simp))), ih]
    rfl
theorem rdS_stL {l : List Sta} (h : ∀ x ∈ l, okSt x) : (rdS (stL l)).1 = l := by
  unfold stL
  rw [rdS_map _ l h, rdS_none rs1_nil, List.append_nil]
theorem cut_len (s : Str) : (Lib.cut s [32]).1.length ≤ s.length := by
  unfold Lib.cut
  split
  · rw [List.length_take]; omega
  · exact Nat.le_refl _
theorem cut_len2 (s : Str) : (Lib.cut s [32]).2.1.length ≤ s.length := by
  unfold Lib.cut
  split
  · rw [List.length_drop]; omega
  · simp
theorem trimP_len (t p : Str) : (Lib.trimPrefix t p).length ≤ t.length := by
  unfold Lib.trimPrefix
  split
  · rw [List.length_drop]; omega
  · exact Nat.le_refl _
theorem rs1_len {t : Str} {x : Sta} (h : rs1 t = some x) : x.1.length ≤ t.length := by
  unfold rs1 at h
  split at h
  · cases h
    exact trimP_len t okWo
  · split at h
    · cases h
      have h1 := cut_len (trP ngWo t)
      have h2 := trP_len ngWo t
      exact Nat.le_trans h1 h2
    · cases h
theorem rdS_len (B : Nat) : ∀ ts : List Str, (∀ t ∈ ts, t.length ≤ B) → ∀ x ∈ (rdS ts).1, x.1.length ≤ B
  | [], _, x, hx => by cases hx
  | t :: ts, h, x, hx => by
    cases hr : rs1 t with
    | none => rw [rdS_none hr] at hx; cases hx
    | some y =>
      rw [rdS_some hr] at hx
      rcases List.mem_cons.1 hx with rfl | hx
      · exact Nat.le_trans (rs1_len hr) (h t (by simp))
      · exact rdS_len B ts (fun u hu => h u (by simp [hu])) x hx
theorem rdS_fit : ∀ ts : List Str, ∀ x ∈ (rdS ts).1, 0 ≤ x.2 ∧ x.2 ≤ 1000000
  | [], x, hx => by cases hx
  | t :: ts, x, hx => by
    cases hr : rs1 t with
    | none => rw [rdS_none hr] at hx; cases hx
    | some y =>
      rw [rdS_some hr] at hx
      rcases List.mem_cons.1 hx with rfl | hx
      · unfold rs1 at hr
        split at hr
        · cases hr; simp
        · split at hr
          · rename_i v hv
            cases hr
            have := parseU_le _ v hv
            simp
            omega
          · cases hr
      · exact rdS_fit ts x hx
structure Sok (s : Str) (l : List Sta) : Prop where
  ok : OkS l
  b : s = stB l
theorem stB_lines {ls : List Str} {l : List Sta} (hok : okL ls) (hl : ∀ x ∈ l, okSt x) (h : pktL ls = stB l) : ls = (stL l).map tx := pktL_inj hok (stL_ok hl) h
theorem sok_read {s : Str} {ls : List Str} {l : List Sta} (h : Sok s l) (hok : okL ls) (hs : s = pktL ls) : (rdS (ls.map noEnd)).1 = l := by
  rw [stB_lines hok h.ok.1 (by rw [← hs]; exact h.b), map_noEnd, rdS_stL h.ok.1]
theorem sok_ls {s : Str} {l : List Sta} (h : Sok s l) : ∃ ls, okL ls ∧ s = pktL ls := ⟨_, stL_ok h.ok.1, h.b⟩
theorem sok_one {s : Str} {l l2 : List Sta} (h : Sok s l) (h2 : Sok s l2) : l = l2 := by
  obtain ⟨ls, hok, hs⟩ := sok_ls h
  rw [← sok_read h hok hs, ← sok_read h2 hok hs]
def nd (c : Str) : Int := (c.take 4).foldl (fun n ch => n * 10 + (ch.toNat : Int) - 48) 0
theorem nd_d3 (n : Nat) (h : n ≤ 999) : nd (d3 n) = n := by
  have hd := dgt_nat
  unfold nd d3
  split
  · simp [hd n (by omega)]
    omega
  · split
    · simp [hd (n / 10) (by omega), hd (n % 10) (by omega)]
      omega
    · simp [hd (n / 100) (by omega), hd (n / 10 % 10) (by omega), hd (n % 10) (by omega)]
      omega
def ok2 : Str := [111, 107]
def ng2 : Str := [110, 103]
def lnS (x : Str) : List Sta := match wdsA [] x with
  | [a, b] => if a = ok2 then [(b, 0)] else []
  | [a, b, c] => if a = ng2 then [(b, nd c)] else []
  | _ => []
theorem lnS_two {x a b : Str} (h : wdsA [] x = [a, b]) : lnS x = if a = ok2 then [(b, 0)] else [] := by rw [lnS, h]
theorem lnS_three {x a b c : Str} (h : wdsA [] x = [a, b, c]) : lnS x = if a = ng2 then [(b, nd c)] else [] := by rw [lnS, h]
theorem lnS_not {x : Str} (h : (wdsA [] x).length ≠ 2) (h3 : (wdsA [] x).length ≠ 3) : lnS x = [] := by
  unfold lnS
  split
  · rename_i a b e; rw [e] at h; exact absurd rfl h
  · rename_i a b c e; rw [e] at h3; exact absurd rfl h3
  · rfl
theorem lnS_stT {x : Sta} (h : okSt x) : lnS (tx (stT x)) = [x] := by
  have n10 := isN_bytes h.1 10 (by decide)
  have n32 := isN_bytes h.1 32 (by decide)
  obtain ⟨a, b⟩ := x
  simp only at n10 n32
  by_cases h0 : b = 0
  · subst h0
    have e : tx (stT (a, 0)) = ok2 ++ 32 :: (a ++ [10]) := by
      unfold stT tx
      rw [if_pos rfl, if_neg (by simp [okWo])]
      simp [okWo, ok2]
    have hw : wdsA [] (tx (stT (a, 0))) = [ok2, a] := by
      rw [e, wds_blank ok2 [] _ (by decide) (by decide), wds_plain a [] n10 n32]
      simp
    rw [lnS_two hw, if_pos rfl]
  · have hr := h.2
    simp only at hr
    have hn : b.toNat ≤ 999 := by omega
    have e : tx (stT (a, b)) = ng2 ++ 32 :: (a ++ 32 :: (d3 b.toNat ++ [10])) := by
      unfold stT tx
      rw [if_neg h0, if_neg (by simp [ngWo])]
      simp [ngWo, ng2]
    have hw : wdsA [] (tx (stT (a, b))) = [ng2, a, d3 b.toNat] := by
      rw [e, wds_blank ng2 [] _ (by decide) (by decide), wds_blank a [] _ n10 n32, wds_plain _ [] (d3_no _ hn 10 (by decide)) (d3_no _ hn 32 (by decide))]
      simp
    rw [lnS_three hw, if_pos rfl, nd_d3 _ hn]
    congr 2
    omega
theorem lnS_stL : ∀ {l : List Sta}, (∀ x ∈ l, okSt x) → ((stL l).map tx).flatMap lnS = l
  | [], _ => by decide
  | x :: l, h => by
    have ih := lnS_stL (l := l) (fun y hy => h y (by simp [hy]))
    have e : (stL (x :: l)).map tx = tx (stT x) :: (stL l).map tx := rfl
    rw [e, List.flatMap_cons, ih, lnS_stT (h x (by simp))]
    rfl
theorem sok_doc {s : Str} {ls : List Str} {l : List Sta} (h : Sok s l) (hok : okL ls) (hs : s = pktL ls) : ls.flatMap lnS = l := by
  rw [stB_lines hok h.ok.1 (by rw [← hs]; exact h.b), lnS_stL h.ok.1]
theorem lnS_cnt (x : Str) : (lnS x).length ≤ 1 := by
  unfold lnS
  split
  · split <;> simp
  · split <;> simp
  · simp
theorem lnSL_cnt : ∀ ls : List Str, (ls.flatMap lnS).length ≤ ls.length
  | [] => Nat.le_refl _
  | x :: ls => by
    have := lnSL_cnt ls
    have := lnS_cnt x
    rw [List.flatMap_cons, List.length_append, List.length_cons]
    omega
theorem nd_fit (c : Str) : -1000000 ≤ nd c ∧ nd c ≤ 1000000 := by
  unfold nd
  have hb : ∀ x : UInt8, (x.toNat : Int) < 256 := fun x => by have := x.toNat_lt; omega
  match c with
  | [] => simp
  | [a] => have := hb a; simp; omega
  | [a, b] => have := hb a; have := hb b; simp; omega
  | [a, b, d] => have := hb a; have := hb b; have := hb d; simp; omega
  | a :: b :: d :: e :: r => have := hb a; have := hb b; have := hb d; have := hb e; simp; omega
theorem lnS_fit (x : Str) (hx : x.length ≤ 1000) : ∀ y ∈ lnS x, y.1.length ≤ 1000 ∧ -1000000 ≤ y.2 ∧ y.2 ≤ 1000000 := by
  intro y hy
  unfold lnS at hy
  split at hy
  · rename_i a b e
    split at hy
    · rw [List.mem_singleton.1 hy]
      have := wds_len x [] b (by rw [e]; simp)
      simp at this ⊢
      omega
    · cases hy
  · rename_i a b c e
    split at hy
    · rw [List.mem_singleton.1 hy]
      have := wds_len x [] b (by rw [e]; simp)
      have := nd_fit c
      simp at *
      omega
    · cases hy
  · cases hy
end Go.Proofs.YtijeogdnjeamaaaGreatDoor
namespace Go.Proofs.YtijeogdnjeamaaaGreatDoor
open Go.RowKit
set_option linter.unusedVariables false
set_option linter.unusedSimpArgs false
theorem ps_one (w : World) (s : Str) (u : ByteArray) (hu : ⟨s.toArray⟩ = u) : PS (w.alloc (.cells #[.string u] 9)) (some ⟨w.heap.size, 0, none⟩) 1 [s] :=
  ⟨Nat.le_refl _, fun _ => ⟨w.heap.size, 0, rfl, by simp, fun i hi j v hv => by
    obtain rfl : i = 0 := by simpa using hi
    have := range_row (heap_alloc_new w (.cells ([sV s] : List Value).toArray 9)) j v hv
    rw [← hu]
    simpa [sV] using this⟩, fun h => by cases h⟩
end Go.Proofs.YtijeogdnjeamaaaGreatDoor
namespace Go.Proofs.YtijeogdnjeamaaaGreatDoor
open Go.RowKit
set_option linter.unusedVariables false
set_option linter.unusedSimpArgs false
theorem elem63 : Tryz.prog.underlying 63 = some (.slice (Tryz.prog.elem 63)) := by kernel_rfl
theorem size63e (w : World) : (Go.sizeOf (Tryz.prog.elem 63)).run Tryz.prog w = .ok 1 w := by kernel_rfl
theorem sl63l (a : Option Addr) (n cap i : Nat) (hi : i ≤ n) (w : World) : (Instr.slice 63 (.slice a n cap) (some (.int .i64 i)) none none).run Tryz.prog w = .ok (.slice (adX 1 a cap i) (n - i : Nat) (cap - i : Nat)) w := by
  rw [run_slice_l w 63 a n cap elem63 .i64 i (by omega) (by omega), size63e, Result.andThen_ok, sliced]
  rfl
theorem drop_at (ts : List Str) (i : Nat) (h : i < ts.length) : ts.drop i = ts.getD i [] :: ts.drop (i + 1) := by
  rw [List.drop_eq_getElem_cons h, List.getD_eq_getElem?_getD, List.getElem?_eq_getElem h]
  rfl
end Go.Proofs.YtijeogdnjeamaaaGreatDoor
namespace Go.Proofs.YtijeogdnjeamaaaGreatDoor
open Go.RowKit
set_option linter.unusedVariables false
set_option linter.unusedSimpArgs false
theorem wpList_build2 {P : Program} {ops : Array Oper} {rest : List Oper} {o : Oper} {a : Act} {w w' : World} {Q : Exit → Act → World → Prop} (hg : o.guard = none) (t : Nat) (x0 x1 : Operand) (ho : o.op = .build t #[(0, x0), (1, x1)]) (u0 u1 v : Value) (h0 : a.eval x0 = u0) (h1 : a.eval x1 = u1)
    (hr : (Instr.build t #[(0, u0), (1, u1)]).run P w = .ok v w')
    (h : wpList P ops Q rest (a.put o.dst v) w') : wpList P ops Q (o :: rest) a w := by
  refine wpList_plain hg fun K hK => ?_
  unfold Oper.wp execOp
  simp [ho, h0, h1, hr, Result.andThen]
  exact hK _ _ h
end Go.Proofs.YtijeogdnjeamaaaGreatDoor
namespace Go.Proofs.YtijeogdnjeamaaaGreatDoor
open Go.RowKit
set_option linter.unusedVariables false
set_option linter.unusedSimpArgs false
theorem equal_any {w : World} (a : Option Addr) (ca : Nat) (s : Str) (hA : PB w a ca s) (b : Option Addr) (cb : Nat) (t : Str) (hB : PB w b cb t) :
    Calls Tryz.prog 100 #[.slice a s.length ca, .slice b t.length cb] w fun e w' => e = .returned (.bool (s == t)) ∧ w' = w := by
  obtain ⟨n, HN⟩ : ∃ n, Hid (s.length = n) := ⟨_, rfl⟩
  obtain ⟨m, HM⟩ : ∃ n, Hid (t.length = n) := ⟨_, rfl⟩
  have h1 : (convert 25 9 (.slice a n ca)).run Tryz.prog w = .ok (sV s) w := by rw [← HN.out]; exact conv_str hA
  have h2 : (convert 25 9 (.slice b m cb)).run Tryz.prog w = .ok (sV t) w := by rw [← HM.out]; exact conv_str hB
  unfold sV at h1 h2
  rw [HN.out, HM.out]
  clear hA hB
  go_enter Tryz.func100, Tryz.ntmps100
  go_wp2
  go_ret
  exact ⟨rfl, rfl⟩
theorem st_new (w : World) (t : TypeId) (z : Array Value) (Y : List Value) (h : Y.length = z.size) : ∃ w', (w.alloc (.cells z t)).setCells w.heap.size 0 Y.toArray.toList = w' ∧ (w.alloc (.cells z t)).there w.heap.size 0 Y.toArray.size ∧ Below w.heap.size w w' ∧ w'.rangeAt w.heap.size 0 Y := by
  have ht : (w.alloc (.cells z t)).there w.heap.size 0 Y.toArray.size := there_off (heap_alloc_new w _) 0 (by rw [List.size_toArray, h]; omega)
  exact ⟨_, rfl, ht, below_setCells (Nat.le_refl _) _ _ _ _ ((Below.refl _ w).alloc (Nat.le_refl _) _), World.rangeAt_setCells_same _ _ 0 _ (by rwa [List.size_toArray] at ht)⟩
end Go.Proofs.YtijeogdnjeamaaaGreatDoor
namespace Go.Proofs.YtijeogdnjeamaaaGreatDoor
open Go.RowKit
set_option linter.unusedVariables false
set_option linter.unusedSimpArgs false
theorem results_tmp3 {P : Program} {fn : Func} {p q r : Tmp} (h : fn.results = #[.tmp p, .tmp q, .tmp r]) (tmps : Array Value) (w : World) : (results fn tmps).run P w = .ok (.tuple #[tmps.getD p undef, tmps.getD q undef, tmps.getD r undef]) w := by
  simp [results, h]
structure Qp (P : Nat) (x y : Value) (W : World) : Prop where
  c0 : W.cell? ⟨P, 0, none⟩ = some x
  c1 : W.cell? ⟨P, 1, none⟩ = some y
end Go.Proofs.YtijeogdnjeamaaaGreatDoor
