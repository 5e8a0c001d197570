import Derived.Shelf.Strings.Split
import Derived.Shelf.Strings.Search3
import Derived.Shelf.Strings.Prefix
import Derived.Shelf.Strings.Runes
import Derived.Shelf.Strings.Cut
import Derived.Shelf.Small.Wraps
import Derived.Test.YtijeogdnjeamaaaGreatDoorProg
import Derived.Test.YtijeogdnjeamaaaGreatDoorQp08
import Derived.Test.YtijeogdnjeamaaaGreatDoorChecked
import Derived.RowKit
import Derived.Below
import Derived.WalkKit
import Derived.WalkSpells
import Derived.WalkLawsBesides
import Derived.Deep.LoopGhost
import Derived.BigQuiet
import Derived.Laws.RangeString
import Derived.Laws.RangeAny
import Derived.Lib.IndexAny
namespace Go.Proofs
open Go.Shelf
def Tryz.lays146_ren : Go.Shelf.Ren := ⟨fun | 146 => 88 | 221 => 113 | 268 => 129 | 138 => 130 | 143 => 91 | 195 => 151 | 197 => 152 | 218 => 153 | 219 => 116 | 260 => 171 | 217 => 135 | 225 => 134 | 224 => 133 | 267 => 136 | 266 => 154 | 314 => 155 | n => n, fun | 9 => 9 | 31 => 63 | 3 => 3 | 4 => 4 | 0 => 0 | 105 => 237 | 21 => 21 | 5 => 5 | 46 => 114 | 119 => 261 | 139 => 264 | 138 => 263 | 146 => 240 | 51 => 239 | n => n, fun | 1 => 1 | 3 => 5 | 4 => 6 | n => n⟩
theorem Tryz.lays146 : Go.Proofs.Lays.n146 Tryz.prog Tryz.lays146_ren := {
  mixed := by kernel_rfl
  f138 := Tryz.func130.trans (congrArg some (by kernel_rfl))
  f143 := Tryz.func91.trans (congrArg some (by kernel_rfl))
  f146 := Tryz.func88.trans (congrArg some (by kernel_rfl))
  f195 := Tryz.func151.trans (congrArg some (by kernel_rfl))
  f197 := Tryz.func152.trans (congrArg some (by kernel_rfl))
  f217 := Tryz.func135.trans (congrArg some (by kernel_rfl))
  f218 := Tryz.func153.trans (congrArg some (by kernel_rfl))
  f219 := Tryz.func116.trans (congrArg some (by kernel_rfl))
  f221 := Tryz.func113.trans (congrArg some (by kernel_rfl))
  f224 := Tryz.func133.trans (congrArg some (by kernel_rfl))
  f225 := Tryz.func134.trans (congrArg some (by kernel_rfl))
  f260 := Tryz.func171.trans (congrArg some (by kernel_rfl))
  f266 := Tryz.func154.trans (congrArg some (by kernel_rfl))
  f267 := Tryz.func136.trans (congrArg some (by kernel_rfl))
  f268 := Tryz.func129.trans (congrArg some (by kernel_rfl))
  f314 := Tryz.func155.trans (congrArg some (by kernel_rfl))
  t0 := Tryz.underlying0
  a0 := Tryz.isAgg0
  z0 := Tryz.sizeOf0
  v0 := Tryz.zeroValue0
  t3 := Tryz.underlying3
  a3 := Tryz.isAgg3
  z3 := Tryz.sizeOf3
  v3 := Tryz.zeroValue3
  t4 := Tryz.underlying4
  a4 := Tryz.isAgg4
  z4 := Tryz.sizeOf4
  v4 := Tryz.zeroValue4
  t5 := Tryz.underlying5
  a5 := Tryz.isAgg5
  z5 := Tryz.sizeOf5
  v5 := Tryz.zeroValue5
  t9 := Tryz.underlying9
  a9 := Tryz.isAgg9
  z9 := Tryz.sizeOf9
  v9 := Tryz.zeroValue9
  t21 := Tryz.underlying21
  a21 := Tryz.isAgg21
  z21 := Tryz.sizeOf21
  v21 := Tryz.zeroValue21
  t31 := Tryz.underlying63
  a31 := Tryz.isAgg63
  z31 := Tryz.sizeOf63
  v31 := Tryz.zeroValue63
  t46 := Tryz.underlying114
  a46 := Tryz.isAgg114
  z46 := Tryz.sizeOf114
  v46 := Tryz.zeroValue114
  t51 := Tryz.underlying239
  a51 := Tryz.isAgg239
  z51 := Tryz.sizeOf239
  v51 := Tryz.zeroValue239
  t105 := Tryz.underlying237
  a105 := Tryz.isAgg237
  z105 := Tryz.sizeOf237
  v105 := Tryz.zeroValue237
  t119 := Tryz.underlying261
  a119 := Tryz.isAgg261
  z119 := Tryz.sizeOf261
  t138 := Tryz.underlying263
  a138 := Tryz.isAgg263
  z138 := Tryz.sizeOf263
  v138 := Tryz.zeroValue263
  t139 := Tryz.underlying264
  a139 := Tryz.isAgg264
  z139 := Tryz.sizeOf264
  v139 := Tryz.zeroValue264
  t146 := Tryz.underlying240
  a146 := Tryz.isAgg240
  z146 := Tryz.sizeOf240
  v146 := Tryz.zeroValue240
  g1 := by kernel_rfl
  g3 := by kernel_rfl
  g4 := by kernel_rfl }
def Tryz.lays144_ren : Go.Shelf.Ren := ⟨fun | 144 => 56 | 143 => 91 | 219 => 116 | 217 => 135 | 225 => 134 | 224 => 133 | 267 => 136 | 266 => 154 | 314 => 155 | n => n, fun | 9 => 9 | 4 => 4 | 3 => 3 | 5 => 5 | 46 => 114 | 146 => 240 | 51 => 239 | n => n, fun | 1 => 1 | n => n⟩
theorem Tryz.lays144 : Go.Proofs.Lays.n144 Tryz.prog Tryz.lays144_ren := {
  mixed := by kernel_rfl
  f143 := Tryz.func91.trans (congrArg some (by kernel_rfl))
  f144 := Tryz.func56.trans (congrArg some (by kernel_rfl))
  f217 := Tryz.func135.trans (congrArg some (by kernel_rfl))
  f219 := Tryz.func116.trans (congrArg some (by kernel_rfl))
  f224 := Tryz.func133.trans (congrArg some (by kernel_rfl))
  f225 := Tryz.func134.trans (congrArg some (by kernel_rfl))
  f266 := Tryz.func154.trans (congrArg some (by kernel_rfl))
  f267 := Tryz.func136.trans (congrArg some (by kernel_rfl))
  f314 := Tryz.func155.trans (congrArg some (by kernel_rfl))
  t3 := Tryz.underlying3
  a3 := Tryz.isAgg3
  z3 := Tryz.sizeOf3
  v3 := Tryz.zeroValue3
  t4 := Tryz.underlying4
  a4 := Tryz.isAgg4
  z4 := Tryz.sizeOf4
  v4 := Tryz.zeroValue4
  t5 := Tryz.underlying5
  a5 := Tryz.isAgg5
  z5 := Tryz.sizeOf5
  v5 := Tryz.zeroValue5
  t9 := Tryz.underlying9
  a9 := Tryz.isAgg9
  z9 := Tryz.sizeOf9
  v9 := Tryz.zeroValue9
  t46 := Tryz.underlying114
  a46 := Tryz.isAgg114
  z46 := Tryz.sizeOf114
  v46 := Tryz.zeroValue114
  t51 := Tryz.underlying239
  a51 := Tryz.isAgg239
  z51 := Tryz.sizeOf239
  v51 := Tryz.zeroValue239
  t146 := Tryz.underlying240
  a146 := Tryz.isAgg240
  z146 := Tryz.sizeOf240
  v146 := Tryz.zeroValue240
  g1 := by kernel_rfl }
def Tryz.lays100_ren : Go.Shelf.Ren := ⟨fun | 100 => 57 | 207 => 92 | n => n, fun | 9 => 9 | 4 => 4 | 3 => 3 | n => n, fun | n => n⟩
theorem Tryz.lays100 : Go.Proofs.Lays.n100 Tryz.prog Tryz.lays100_ren := {
  mixed := by kernel_rfl
  f100 := Tryz.func57.trans (congrArg some (by kernel_rfl))
  f207 := Tryz.func92.trans (congrArg some (by kernel_rfl))
  t3 := Tryz.underlying3
  a3 := Tryz.isAgg3
  z3 := Tryz.sizeOf3
  v3 := Tryz.zeroValue3
  t4 := Tryz.underlying4
  a4 := Tryz.isAgg4
  z4 := Tryz.sizeOf4
  v4 := Tryz.zeroValue4
  t9 := Tryz.underlying9
  a9 := Tryz.isAgg9
  z9 := Tryz.sizeOf9
  v9 := Tryz.zeroValue9 }
def Tryz.lays99_ren : Go.Shelf.Ren := ⟨fun | 99 => 89 | 206 => 114 | n => n, fun | 9 => 9 | 4 => 4 | 3 => 3 | n => n, fun | n => n⟩
theorem Tryz.lays99 : Go.Proofs.Lays.n99 Tryz.prog Tryz.lays99_ren := {
  mixed := by kernel_rfl
  f99 := Tryz.func89.trans (congrArg some (by kernel_rfl))
  f206 := Tryz.func114.trans (congrArg some (by kernel_rfl))
  t3 := Tryz.underlying3
  a3 := Tryz.isAgg3
  z3 := Tryz.sizeOf3
  v3 := Tryz.zeroValue3
  t4 := Tryz.underlying4
  a4 := Tryz.isAgg4
  z4 := Tryz.sizeOf4
  v4 := Tryz.zeroValue4
  t9 := Tryz.underlying9
  a9 := Tryz.isAgg9
  z9 := Tryz.sizeOf9
  v9 := Tryz.zeroValue9 }
def Tryz.lays151_ren : Go.Shelf.Ren := ⟨fun | 151 => 90 | 152 => 115 | 137 => 131 | 119 => 132 | 224 => 133 | 225 => 134 | 217 => 135 | 266 => 154 | n => n, fun | 9 => 9 | 21 => 21 | 4 => 4 | 3 => 3 | 5 => 5 | 0 => 0 | 46 => 114 | n => n, fun | n => n⟩
theorem Tryz.lays151 : Go.Proofs.Lays.n151 Tryz.prog Tryz.lays151_ren := {
  mixed := by kernel_rfl
  f119 := Tryz.func132.trans (congrArg some (by kernel_rfl))
  f137 := Tryz.func131.trans (congrArg some (by kernel_rfl))
  f151 := Tryz.func90.trans (congrArg some (by kernel_rfl))
  f152 := Tryz.func115.trans (congrArg some (by kernel_rfl))
  f217 := Tryz.func135.trans (congrArg some (by kernel_rfl))
  f224 := Tryz.func133.trans (congrArg some (by kernel_rfl))
  f225 := Tryz.func134.trans (congrArg some (by kernel_rfl))
  f266 := Tryz.func154.trans (congrArg some (by kernel_rfl))
  t0 := Tryz.underlying0
  a0 := Tryz.isAgg0
  z0 := Tryz.sizeOf0
  v0 := Tryz.zeroValue0
  t3 := Tryz.underlying3
  a3 := Tryz.isAgg3
  z3 := Tryz.sizeOf3
  v3 := Tryz.zeroValue3
  t4 := Tryz.underlying4
  a4 := Tryz.isAgg4
  z4 := Tryz.sizeOf4
  v4 := Tryz.zeroValue4
  t5 := Tryz.underlying5
  a5 := Tryz.isAgg5
  z5 := Tryz.sizeOf5
  v5 := Tryz.zeroValue5
  t9 := Tryz.underlying9
  a9 := Tryz.isAgg9
  z9 := Tryz.sizeOf9
  v9 := Tryz.zeroValue9
  t21 := Tryz.underlying21
  a21 := Tryz.isAgg21
  z21 := Tryz.sizeOf21
  v21 := Tryz.zeroValue21
  t46 := Tryz.underlying114
  a46 := Tryz.isAgg114
  z46 := Tryz.sizeOf114
  v46 := Tryz.zeroValue114 }
def Tryz.lays145_ren : Go.Shelf.Ren := ⟨fun | 145 => 122 | 220 => 143 | 219 => 116 | 217 => 135 | 225 => 134 | 224 => 133 | 267 => 136 | 266 => 154 | 314 => 155 | n => n, fun | 9 => 9 | 4 => 4 | 59 => 205 | 3 => 3 | 5 => 5 | 46 => 114 | 146 => 240 | 51 => 239 | n => n, fun | 1 => 1 | n => n⟩
theorem Tryz.lays145 : Go.Proofs.Lays.n145 Tryz.prog Tryz.lays145_ren := {
  mixed := by kernel_rfl
  f145 := Tryz.func122.trans (congrArg some (by kernel_rfl))
  f217 := Tryz.func135.trans (congrArg some (by kernel_rfl))
  f219 := Tryz.func116.trans (congrArg some (by kernel_rfl))
  f220 := Tryz.func143.trans (congrArg some (by kernel_rfl))
  f224 := Tryz.func133.trans (congrArg some (by kernel_rfl))
  f225 := Tryz.func134.trans (congrArg some (by kernel_rfl))
  f266 := Tryz.func154.trans (congrArg some (by kernel_rfl))
  f267 := Tryz.func136.trans (congrArg some (by kernel_rfl))
  f314 := Tryz.func155.trans (congrArg some (by kernel_rfl))
  t3 := Tryz.underlying3
  a3 := Tryz.isAgg3
  z3 := Tryz.sizeOf3
  v3 := Tryz.zeroValue3
  t4 := Tryz.underlying4
  a4 := Tryz.isAgg4
  z4 := Tryz.sizeOf4
  v4 := Tryz.zeroValue4
  t5 := Tryz.underlying5
  a5 := Tryz.isAgg5
  z5 := Tryz.sizeOf5
  v5 := Tryz.zeroValue5
  t9 := Tryz.underlying9
  a9 := Tryz.isAgg9
  z9 := Tryz.sizeOf9
  v9 := Tryz.zeroValue9
  t46 := Tryz.underlying114
  a46 := Tryz.isAgg114
  z46 := Tryz.sizeOf114
  v46 := Tryz.zeroValue114
  t51 := Tryz.underlying239
  a51 := Tryz.isAgg239
  z51 := Tryz.sizeOf239
  v51 := Tryz.zeroValue239
  t59 := Tryz.underlying205
  a59 := Tryz.isAgg205
  z59 := Tryz.sizeOf205
  v59 := Tryz.zeroValue205
  t146 := Tryz.underlying240
  a146 := Tryz.isAgg240
  z146 := Tryz.sizeOf240
  v146 := Tryz.zeroValue240
  g1 := by kernel_rfl }
end Go.Proofs
namespace Go.Proofs.YtijeogdnjeamaaaGreatDoor.Nm
open Go.RowKit
set_option linter.unusedVariables false
set_option linter.unusedSimpArgs false
theorem hid {p : Prop} (h : p) : Hid p := h
theorem iter_below (w : World) (s : ByteArray) (pos : Nat) : Below w.heap.size w (w.iter s pos) :=
  ⟨rfl, rfl, rfl, by simp [World.iter], fun k hk => by
    show (w.heap.push _)[k]? = _
    rw [Array.getElem?_push, if_neg (by omega)]⟩
theorem rune_any (c : Int) (w : World) (h0 : 0 ≤ c) (h1 : c < 128) :
    Calls Tryz.prog 90 #[.string ⟨#[126, 94, 58, 63, 42, 91, 92]⟩, .int .i32 c] w fun e w' => e = .returned (.bool (([126, 94, 58, 63, 42, 91, 92] : List UInt8).contains c.toNat.toUInt8)) ∧ w' = w := by
  refine (Any.strings_ContainsRune_ascii Tryz.lays151 ⟨#[126, 94, 58, 63, 42, 91, 92]⟩ c w h0 h1).mono ?_
  rintro e w' ⟨rfl, rfl⟩
  exact ⟨by rw [Lib.contains_iff_indexByte], rfl⟩
set_option maxRecDepth 100000 in
set_option maxHeartbeats 1000000 in
theorem hasRunes_any (s : List UInt8) (w : World) :
    Calls Tryz.prog 55 #[.string ⟨s.toArray⟩] w fun e w' => e = .returned (.bool (s.all byteOk)) ∧ Below w.heap.size w w' := by
  obtain ⟨S, HS⟩ : ∃ S : ByteArray, Hid (⟨s.toArray⟩ = S) := ⟨_, rfl⟩
  obtain ⟨n, HN⟩ : ∃ n, Hid (s.length = n) := ⟨_, rfl⟩
  have hsz : S.size = n := by rw [← HS.out, ← HN.out]; simp [ByteArray.size]
  have HBI : Hid (∀ pos, Below w.heap.size w (w.iter S pos)) := fun pos => iter_below w S pos
  have HG : Hid (∀ pos (h : pos < S.size), s[pos]? = some (S[pos]'h)) := fun pos h => by
    have := Lib.data_getElem? S pos h
    rw [← this, ← HS.out]
  have HBAD : Hid (∀ pos x, s[pos]? = some x → byteOk x = false → s.all byteOk = false) := fun pos x hx hb => by
    rw [Bool.eq_false_iff]
    intro h
    have := List.all_eq_true.1 h x (List.mem_of_getElem? hx)
    rw [hb] at this
    cases this
  rw [HS.out]
  go_enter Tryz.func55, Tryz.ntmps55
  go_wp2
  go_loopw [] (fun w' => ∃ pos : Nat, w' = w.iter S pos ∧ pos ≤ n ∧ Hid (∀ x ∈ s.take pos, byteOk x = true)) (fun w' => n - w'.iterPos w.heap.size)
  case atStart => exact ⟨0, rfl, Nat.zero_le _, hid (by simp)⟩
  case round =>
    obtain ⟨pos, rfl, hpn, HD⟩ := hrel
    by_cases hp : pos < S.size
    · have hnx : ∀ ty, (Instr.next (.pointer (some ⟨w.heap.size, 0, none⟩)) true ty).run Tryz.prog (w.iter S pos) = _ := fun ty => run_next_any w S pos ty hp
      obtain ⟨x, HX⟩ : ∃ x, Hid (S[pos]'hp = x) := ⟨_, rfl⟩
      have HSX : Hid (s[pos]? = some x) := hid (by rw [← HX.out]; exact HG.out pos hp)
      by_cases h128 : x.toNat < 128
      · have hdec := decode_ascii S pos hp (by rw [HX.out]; exact h128)
        rw [HX.out] at hdec
        rw [hdec] at hnx
        obtain ⟨c, HC⟩ : ∃ c : Int, Hid ((x.toNat : Int) = c) := ⟨_, rfl⟩
        simp only [HC.out] at hnx
        have hc0 : 0 ≤ c := by rw [← HC.out]; omega
        have hc1 : c < 128 := by rw [← HC.out]; omega
        have HT : Hid (c.toNat.toUInt8 = x) := hid (by rw [← HC.out]; simp)
        clear hdec
        by_cases h33 : c < 33
        · have HB : Hid (s.all byteOk = false) := hid (HBAD.out pos x HSX.out (by unfold byteOk; rw [decide_eq_false (by have := HC.out; omega)]; rfl))
          go_wp2
          go_ret
          exact ⟨by rw [HB.out]; rfl, HBI.out _⟩
        · by_cases h126 : 126 < c
          · have HB : Hid (s.all byteOk = false) := hid (HBAD.out pos x HSX.out (by unfold byteOk; rw [decide_eq_false (show ¬ x.toNat ≤ 126 by have := HC.out; omega)]; simp))
            go_wp2
            go_ret
            exact ⟨by rw [HB.out]; rfl, HBI.out _⟩
          · obtain ⟨b, HBB⟩ : ∃ b, Hid (([126, 94, 58, 63, 42, 91, 92] : List UInt8).contains x = b) := ⟨_, rfl⟩
            have CR : Hid (∀ w, Calls Tryz.prog 90 #[.string ⟨#[126, 94, 58, 63, 42, 91, 92]⟩, .int .i32 c] w fun e w' => e = .returned (.bool b) ∧ w' = w) := fun w => by
              have := rune_any c w hc0 hc1
              rw [HT.out, HBB.out] at this
              exact this
            have HOK : Hid (byteOk x = !b) := hid (by
              unfold byteOk
              rw [HBB.out, decide_eq_true (show 33 ≤ x.toNat by have := HC.out; omega), decide_eq_true (show x.toNat ≤ 126 by have := HC.out; omega)]
              rfl)
            have hpn' : pos < n := by rw [← hsz]; exact hp
            cases b with
            | true =>
              have HB : Hid (s.all byteOk = false) := hid (HBAD.out pos x HSX.out HOK.out)
              go_wp2_with (go_at_call 90; refine (CR.out _).mono ?_; rintro e w' ⟨rfl, rfl⟩)
              go_ret
              exact ⟨by rw [HB.out]; rfl, HBI.out _⟩
            | false =>
              go_wp2_with (go_at_call 90; refine (CR.out _).mono ?_; rintro e w' ⟨rfl, rfl⟩)
              go_roundw
              case rel =>
                refine ⟨pos + 1, rfl, by omega, hid ?_⟩
                rw [List.take_add_one, HSX.out]
                intro y hy
                rcases List.mem_append.1 hy with hy | hy
                · exact HD.out y hy
                · have : y = x := by simpa using hy
                  subst this
                  exact HOK.out
              case measure =>
                simp
                omega
      · have hdec := decode_high S pos hp (by rw [HX.out]; omega)
        have HB : Hid (s.all byteOk = false) := hid (HBAD.out pos x HSX.out (by unfold byteOk; rw [decide_eq_false (show ¬ x.toNat ≤ 126 by omega)]; simp))
        obtain ⟨c, HC⟩ : ∃ c : Int, Hid (((Utf8.decode S pos).1 : Int) = c) := ⟨_, rfl⟩
        simp only [HC.out] at hnx
        have h126 : 126 < c := by rw [← HC.out]; omega
        have h33 : ¬ c < 33 := by omega
        clear hdec
        go_wp2
        go_ret
        exact ⟨by rw [HB.out]; rfl, HBI.out _⟩
    · have hnx : ∀ ty, (Instr.next (.pointer (some ⟨w.heap.size, 0, none⟩)) true ty).run Tryz.prog (w.iter S pos) = _ := fun ty => run_next_end w S pos ty hp
      have HB : Hid (s.all byteOk = true) := hid (by
        have h := HD.out
        rw [List.take_of_length_le (by rw [HN.out]; omega)] at h
        exact List.all_eq_true.2 h)
      go_wp2
      go_ret
      exact ⟨by rw [HB.out]; rfl, HBI.out _⟩
end Go.Proofs.YtijeogdnjeamaaaGreatDoor.Nm
namespace Go.Proofs.YtijeogdnjeamaaaGreatDoor.Nm
open Go.RowKit
set_option linter.unusedVariables false
set_option linter.unusedSimpArgs false
def Mx (w : World) : Prop := ∃ m, w.cell? ⟨1, 0, none⟩ = some (.int .i64 m)
theorem cell_lt {w : World} {p : Addr} {v : Value} (h : w.cell? p = some v) : p.block < w.heap.size := by
  apply Classical.byContradiction
  intro hn
  rw [World.cell?, Array.getElem?_eq_none (by omega)] at h
  cases h
theorem Mx.below {w w' : World} (h : Mx w) (hb : Below w.heap.size w w') : Mx w' := by
  obtain ⟨m, hm⟩ := h
  exact ⟨m, (hb.cell (p := ⟨1, 0, none⟩) (cell_lt hm)).trans hm⟩
theorem txt_len (l : List UInt8) : (⟨l.toArray⟩ : ByteArray).size = l.length := by simp [ByteArray.size]
theorem Tryz.info9 : (Tryz.prog.info? 9).map (fun i => (i.zero, i.size, i.bytes)) = some (some (.string ByteArray.empty), 1, 16) := by kernel_rfl
def pV (p : List UInt8) : Value := .string ⟨p.toArray⟩
theorem split_any (s : List UInt8) (hs : s.length ≤ 100000) (w : World) (hm : Mx w) :
    Calls Tryz.prog 88 #[.string ⟨s.toArray⟩, .string ⟨#[47]⟩] w fun e w' => e = .returned (.slice (some ⟨w.heap.size, 0, none⟩) (spl s).length (spl s).length) ∧ w' = w.alloc (.cells ((spl s).map pV).toArray 9) := by
  obtain ⟨m, hm⟩ := hm
  refine (Any.strings_Split Tryz.lays146 Tryz.info9 ⟨s.toArray⟩ ⟨#[47]⟩ m w (by rw [txt_len]; omega) hm (by decide)).mono ?_
  rintro e w' ⟨rfl, rfl⟩
  have hc : Lib.countB ⟨s.toArray⟩ ⟨#[47]⟩ = Lib.count s [47] := rfl
  have hd := Lib.splitB_data ⟨#[47]⟩ 0 (Lib.count s [47]) ⟨s.toArray⟩
  have hd2 : (Lib.splitB ⟨#[47]⟩ 0 (Lib.count s [47]) ⟨s.toArray⟩).map (·.data.toList) = spl s := hd.trans (split_spl s)
  have hl : (spl s).length = Lib.count s [47] + 1 := count_spl (s.length + 1) s (Nat.le_refl _)
  have hv : (Lib.splitB ⟨#[47]⟩ 0 (Lib.count s [47]) ⟨s.toArray⟩).map Value.string = (spl s).map pV := by
    rw [← hd2, List.map_map]
    refine List.map_congr_left fun b _ => ?_
    simp [pV]
  rw [hc, hv, hl]
  exact ⟨rfl, rfl⟩
theorem hasPrefix_any (s p : List UInt8) (w : World) : Calls Tryz.prog 89 #[.string ⟨s.toArray⟩, .string ⟨p.toArray⟩] w fun e w' => e = .returned (.bool (Lib.hasPrefix s p)) ∧ w' = w :=
  Any.strings_HasPrefix Tryz.lays99 ⟨s.toArray⟩ ⟨p.toArray⟩ w
theorem hasSuffix_any (s p : List UInt8) (hs : s.length ≤ 100000) (w : World) : Calls Tryz.prog 57 #[.string ⟨s.toArray⟩, .string ⟨p.toArray⟩] w fun e w' => e = .returned (.bool (Lib.hasSuffix s p)) ∧ w' = w :=
  Any.strings_HasSuffix Tryz.lays100 ⟨s.toArray⟩ ⟨p.toArray⟩ w (by rw [txt_len]; omega)
theorem contains_any (s p : List UInt8) (hs : s.length ≤ 100000) (w : World) (hm : Mx w) : Calls Tryz.prog 56 #[.string ⟨s.toArray⟩, .string ⟨p.toArray⟩] w fun e w' => e = .returned (.bool (Lib.contains s p)) ∧ w' = w := by
  obtain ⟨m, hm⟩ := hm
  exact Any.strings_Contains Tryz.lays144 ⟨s.toArray⟩ ⟨p.toArray⟩ m w (by rw [txt_len]; omega) hm
theorem spl_len (s : List UInt8) : ∀ p ∈ spl s, p.length ≤ s.length := by
  induction s with
  | nil => intro p hp; simp [spl] at hp; subst hp; simp
  | cons c t ih =>
    intro p hp
    rw [spl] at hp
    split at hp
    · rcases List.mem_cons.1 hp with rfl | hp
      · simp
      · have := ih p hp; simp; omega
    · cases hq : spl t with
      | nil => exact absurd hq (spl_ne t)
      | cons q qs =>
        rw [hq] at hp ih
        rcases List.mem_cons.1 hp with rfl | hp
        · have := ih q (by simp); simp; omega
        · have := ih p (by simp [hp]); simp; omega
set_option maxRecDepth 100000 in
set_option maxHeartbeats 1000000 in
theorem hasParts_any (s : List UInt8) (hs : s.length ≤ 100000) (w : World) (hm : Mx w) :
    Calls Tryz.prog 54 #[.string ⟨s.toArray⟩] w fun e w' => e = .returned (.bool ((spl s).all partOk && ((spl s).headD [] == [114, 101, 102, 115]) && decide (1 < (spl s).length))) ∧ Below w.heap.size w w' := by
  obtain ⟨S, HS⟩ : ∃ S : ByteArray, Hid (⟨s.toArray⟩ = S) := ⟨_, rfl⟩
  obtain ⟨ps, HP⟩ : ∃ ps, Hid (spl s = ps) := ⟨_, rfl⟩
  obtain ⟨n, HN⟩ : ∃ n, Hid (ps.length = n) := ⟨_, rfl⟩
  have hn0 : 0 < n := by rw [← HN.out, ← HP.out]; exact List.length_pos_iff.2 (spl_ne s)
  have hnl : n ≤ 100001 := by
    rw [← HN.out, ← HP.out]
    have := count_spl (s.length + 1) s (Nat.le_refl _)
    have h2 : ∀ s : List UInt8, (spl s).length ≤ s.length + 1 := by
      intro s
      induction s with
      | nil => simp [spl]
      | cons c t ih =>
        rw [spl]
        split
        · simp; omega
        · cases hq : spl t with
          | nil => simp
          | cons q qs => rw [hq] at ih; simp at ih ⊢; omega
    have := h2 s
    omega
  have HLN : Hid (∀ p ∈ ps, p.length ≤ 100000) := hid (by rw [← HP.out]; intro p hp; have := spl_len s p hp; omega)
  obtain ⟨G, HG⟩ : ∃ G, Hid (w.heap.size = G) := ⟨_, rfl⟩
  obtain ⟨w1, HW1⟩ : ∃ w1, Hid (w.alloc (.cells (ps.map pV).toArray 9) = w1) := ⟨_, rfl⟩
  have C10 : Hid (Calls Tryz.prog 88 #[.string S, .string ⟨#[47]⟩] w fun e w' => e = .returned (.slice (some ⟨G, 0, none⟩) n n) ∧ w' = w1) := hid (by
    have := split_any s hs w hm
    rw [HS.out, HP.out, HN.out, HG.out, HW1.out] at this
    exact this)
  have HB : Hid (Below w.heap.size w w1) := hid (by rw [← HW1.out]; exact (Below.refl _ w).alloc (Nat.le_refl _) _)
  have HC : Hid (∀ k p, ps[k]? = some p → w1.cell? ⟨G, k, none⟩ = some (pV p)) := fun k p h => by
    rw [← HW1.out, ← HG.out]
    simp [List.getElem?_map, h]
  obtain ⟨r, HRR⟩ : ∃ r, Hid ((ps.all partOk && (ps.headD [] == [114, 101, 102, 115]) && decide (1 < ps.length)) = r) := ⟨_, rfl⟩
  rw [HS.out, HP.out, HRR.out]
  go_enter Tryz.func54, Tryz.ntmps54
  go_wp2_with fail
  refine C10.out.mono ?_
  rintro e w' ⟨rfl, hw⟩
  have hw' := hw.symm
  subst hw'
  clear hw
  go_wp2
  go_loopg [10] n (fun g i wr => ∃ k : Nat, k ≤ n ∧ g = n - k ∧ i = .int .i64 k ∧ Hid (∀ p ∈ ps.take k, partOk p = true) ∧ Hid (wr = w1))
  case atStart => exact ⟨0, Nat.zero_le _, rfl, rfl, hid (by simp), hid rfl⟩
  case round =>
    obtain ⟨k, hk, hg, rfl, HD, HW⟩ := hrel
    have hww := HW.out
    subst hww
    clear HW
    by_cases hlt : k < n
    · have hlti : (k : Int) < (n : Int) := by omega
      obtain ⟨p, hp⟩ : ∃ p, ps[k]? = some p := ⟨_, List.getElem?_eq_getElem (by rw [HN.out]; exact hlt)⟩
      have HPP : Hid (ps[k]? = some p) := hp
      obtain ⟨X, HX⟩ : ∃ X : ByteArray, Hid (⟨p.toArray⟩ = X) := ⟨_, rfl⟩
      have hcell : wr.cell? ⟨G, k, none⟩ = some (.string X) := by rw [← HX.out]; exact HC.out k p hp
      have HBAD : Hid (partOk p = false → (ps.all partOk && (ps.headD [] == [114, 101, 102, 115]) && decide (1 < ps.length)) = false) := fun hb => by
        have : ps.all partOk = false := by
          rw [Bool.eq_false_iff]
          intro h
          have := List.all_eq_true.1 h p (List.mem_of_getElem? HPP.out)
          rw [hb] at this
          cases this
        rw [this]; rfl
      obtain ⟨a, HA⟩ : ∃ a, Hid (Lib.hasPrefix p [46] = a) := ⟨_, rfl⟩
      obtain ⟨b, HBB⟩ : ∃ b, Hid (Lib.hasSuffix p [46, 108, 111, 99, 107] = b) := ⟨_, rfl⟩
      have C11 : Hid (∀ w, Calls Tryz.prog 89 #[.string X, .string ⟨#[46]⟩] w fun e w' => e = .returned (.bool a) ∧ w' = w) := fun w => by rw [← HX.out, ← HA.out]; exact hasPrefix_any p [46] w
      have C9 : Hid (∀ w, Calls Tryz.prog 57 #[.string X, .string ⟨#[46, 108, 111, 99, 107]⟩] w fun e w' => e = .returned (.bool b) ∧ w' = w) := fun w => by rw [← HX.out, ← HBB.out]; exact hasSuffix_any p [46, 108, 111, 99, 107] (HLN.out p (List.mem_of_getElem? HPP.out)) w
      have HXL : Hid (X.toList.isEmpty = p.isEmpty) := hid (by rw [← HX.out, Lib.toList_data])
      clear hp
      cases hpe : p.isEmpty with
      | true =>
        have he : X.toList.isEmpty = true := by rw [HXL.out]; exact hpe
        have HR := HBAD.out (by unfold partOk; rw [hpe]; rfl)
        go_wp2
        go_ret
        exact ⟨by rw [← HRR.out, HR]; rfl, HB.out⟩
      | false =>
        have he : X.toList.isEmpty = false := by rw [HXL.out]; exact hpe
        have HOK : Hid (partOk p = (!a && !b)) := hid (by unfold partOk; rw [hpe, HA.out, HBB.out]; rfl)
        cases a with
        | true =>
          have HR := HBAD.out HOK.out
          go_wp2_with (go_at_call 89; refine (C11.out _).mono ?_; rintro e w' ⟨rfl, rfl⟩)
          go_ret
          exact ⟨by rw [← HRR.out, HR]; rfl, HB.out⟩
        | false =>
          cases b with
          | true =>
            have HR := HBAD.out HOK.out
            go_wp2_with (first
              | (go_at_call 89; refine (C11.out _).mono ?_; rintro e w' ⟨rfl, rfl⟩)
              | (go_at_call 57; refine (C9.out _).mono ?_; rintro e w' ⟨rfl, rfl⟩))
            go_ret
            exact ⟨by rw [← HRR.out, HR]; rfl, HB.out⟩
          | false =>
            go_wp2_with (first
              | (go_at_call 89; refine (C11.out _).mono ?_; rintro e w' ⟨rfl, rfl⟩)
              | (go_at_call 57; refine (C9.out _).mono ?_; rintro e w' ⟨rfl, rfl⟩))
            go_roundg (n - (k + 1))
            case measure => omega
            case rel =>
              refine ⟨k + 1, by omega, rfl, by go_num, hid ?_, hid rfl⟩
              rw [List.take_add_one, HPP.out]
              intro y hy
              rcases List.mem_append.1 hy with hy | hy
              · exact HD.out y hy
              · have : y = p := by simpa using hy
                subst this
                exact HOK.out
    · have hlti : ¬ (k : Int) < (n : Int) := by omega
      have HALL : Hid (ps.all partOk = true) := hid (by
        have h := HD.out
        rw [List.take_of_length_le (by rw [HN.out]; omega)] at h
        exact List.all_eq_true.2 h)
      obtain ⟨p, hp⟩ : ∃ p, ps[0]? = some p := ⟨_, List.getElem?_eq_getElem (by rw [HN.out]; exact hn0)⟩
      have HH : Hid (ps.headD [] = p) := hid (by cases ps with | nil => cases hp | cons q qs => simpa using hp)
      obtain ⟨X, HX⟩ : ∃ X : ByteArray, Hid (⟨p.toArray⟩ = X) := ⟨_, rfl⟩
      have hcell : wr.cell? ⟨G, 0, none⟩ = some (.string X) := by rw [← HX.out]; exact HC.out 0 p hp
      have HXL : Hid (X.toList = p) := hid (by rw [← HX.out, Lib.toList_data])
      have hn0i : (0 : Int) < (n : Int) := by omega
      clear hp
      by_cases hr : p = [114, 101, 102, 115]
      · have he : (X.toList == [114, 101, 102, 115]) = true := by rw [HXL.out]; simpa using hr
        have he2 : (p == [114, 101, 102, 115]) = true := by simpa using hr
        by_cases h1 : 1 < n
        · have h1i : (1 : Int) < (n : Int) := by omega
          go_wp2
          go_ret
          exact ⟨by rw [← HRR.out, HALL.out, HH.out, HN.out, he2, decide_eq_true h1]; rfl, HB.out⟩
        · have h1i : ¬ (1 : Int) < (n : Int) := by omega
          go_wp2
          go_ret
          exact ⟨by rw [← HRR.out, HALL.out, HH.out, HN.out, he2, decide_eq_false h1]; rfl, HB.out⟩
      · have he : (X.toList == [114, 101, 102, 115]) = false := by rw [HXL.out]; simpa using hr
        have he2 : (p == [114, 101, 102, 115]) = false := by simpa using hr
        go_wp2
        go_ret
        exact ⟨by rw [← HRR.out, HALL.out, HH.out, HN.out, he2]; rfl, HB.out⟩
end Go.Proofs.YtijeogdnjeamaaaGreatDoor.Nm
namespace Go.Proofs.YtijeogdnjeamaaaGreatDoor.Nm
open Go.RowKit
set_option linter.unusedVariables false
set_option linter.unusedSimpArgs false
def isN (s : List UInt8) : Bool := (s == [72, 69, 65, 68]) || docOk s
theorem isN_not {s : List UInt8} (h : s ≠ [72, 69, 65, 68]) : isN s = prgOk s := by
  unfold isN
  rw [ok_same, show (s == [72, 69, 65, 68]) = false by simpa using h]
  rfl
set_option maxRecDepth 100000 in
set_option maxHeartbeats 2000000 in
theorem isName_any (s : List UInt8) (hs : s.length ≤ 100000) (w : World) (hm : Mx w) :
    Calls Tryz.prog 29 #[.string ⟨s.toArray⟩] w fun e w' => e = .returned (.bool (isN s)) ∧ Below w.heap.size w w' := by
  by_cases hh : s = [72, 69, 65, 68]
  · subst hh
    have HB : Hid (Below w.heap.size w w) := Below.refl _ _
    go_enter Tryz.func29, Tryz.ntmps29
    go_wp2
    go_ret
    exact ⟨rfl, HB.out⟩
  · obtain ⟨S, HS⟩ : ∃ S : ByteArray, Hid (⟨s.toArray⟩ = S) := ⟨_, rfl⟩
    obtain ⟨n, HN⟩ : ∃ n, Hid (s.length = n) := ⟨_, rfl⟩
    obtain ⟨G, HG⟩ : ∃ G, Hid (w.heap.size = G) := ⟨_, rfl⟩
    have hsz : S.size = n := by rw [← HS.out, txt_len]; exact HN.out
    have he : (S.toList == [72, 69, 65, 68]) = false := by rw [← HS.out, Lib.toList_data]; simpa using hh
    obtain ⟨b6, H6⟩ : ∃ b, Hid (((spl s).all partOk && ((spl s).headD [] == [114, 101, 102, 115]) && decide (1 < (spl s).length)) = b) := ⟨_, rfl⟩
    obtain ⟨b7, H7⟩ : ∃ b, Hid (s.all byteOk = b) := ⟨_, rfl⟩
    obtain ⟨b8, H8⟩ : ∃ b, Hid (Lib.contains s [46, 46] = b) := ⟨_, rfl⟩
    obtain ⟨b9, H9⟩ : ∃ b, Hid (Lib.contains s [64, 123] = b) := ⟨_, rfl⟩
    obtain ⟨b10, H10⟩ : ∃ b, Hid (Lib.hasSuffix s [46] = b) := ⟨_, rfl⟩
    have HR : Hid (isN s = (decide (n ≤ 60) && b6 && b7 && !b8 && !b9 && !b10)) := hid (by
      rw [isN_not hh, prgOk, H6.out, H7.out, H8.out, H9.out, H10.out, HN.out])
    have HM : Hid (∀ W, Below G w W → Mx W) := fun W hW => hm.below (by rw [HG.out]; exact hW)
    have C6 : Hid (Calls Tryz.prog 54 #[.string S] w fun e w' => e = .returned (.bool b6) ∧ Below G w w') := hid (by
      have := hasParts_any s hs w hm
      rw [HS.out, H6.out, HG.out] at this
      exact this)
    have C7 : Hid (∀ W, Calls Tryz.prog 55 #[.string S] W fun e w' => e = .returned (.bool b7) ∧ Below W.heap.size W w') := fun W => by
      rw [← HS.out, ← H7.out]; exact hasRunes_any s W
    have C8 : Hid (∀ W, Below G w W → Calls Tryz.prog 56 #[.string S, .string ⟨#[46, 46]⟩] W fun e w' => e = .returned (.bool b8) ∧ w' = W) := fun W hW => by
      rw [← HS.out, ← H8.out]; exact contains_any s [46, 46] hs W (HM.out W hW)
    have C9 : Hid (∀ W, Below G w W → Calls Tryz.prog 56 #[.string S, .string ⟨#[64, 123]⟩] W fun e w' => e = .returned (.bool b9) ∧ w' = W) := fun W hW => by
      rw [← HS.out, ← H9.out]; exact contains_any s [64, 123] hs W (HM.out W hW)
    have C10 : Hid (∀ W, Calls Tryz.prog 57 #[.string S, .string ⟨#[46]⟩] W fun e w' => e = .returned (.bool b10) ∧ w' = W) := fun W => by
      rw [← HS.out, ← H10.out]; exact hasSuffix_any s [46] hs W
    have HB0 : Hid (Below G w w) := Below.refl _ _
    have HGS : Hid (G ≤ w.heap.size) := hid (by rw [HG.out]; exact Nat.le_refl _)
    rw [HS.out, HR.out, HG.out]
    clear HR hm hh
    by_cases h60 : n ≤ 60
    · have h60i : (n : Int) ≤ 60 := by omega
      rw [decide_eq_true h60]
      cases b6 with
      | false =>
        go_enter Tryz.func29, Tryz.ntmps29
        go_wp2_with (first
          | (go_at_call 54; refine C6.out.mono ?_; rintro e w1 ⟨rfl, hb1⟩; have HB1 : Hid (Below G w w1) := hb1; clear hb1)
          | fail)
        go_ret
        exact ⟨rfl, HB1.out⟩
      | true =>
      cases b7 with
      | false =>
        go_enter Tryz.func29, Tryz.ntmps29
        go_wp2_with (first
          | (go_at_call 54; refine C6.out.mono ?_; rintro e w1 ⟨rfl, hb1⟩; have HB1 : Hid (Below G w w1) := hb1; clear hb1)
          | (go_at_call 55; refine (C7.out _).mono ?_; rintro e w2 ⟨rfl, hb2⟩; have HB2 : Hid (Below G w w2) := HB1.out.trans (hb2.mono (Nat.le_trans HGS.out HB1.out.size)); clear hb2)
          | fail)
        go_ret
        exact ⟨rfl, HB2.out⟩
      | true =>
      cases b8 with
      | true =>
        go_enter Tryz.func29, Tryz.ntmps29
        go_wp2_with (first
          | (go_at_call 54; refine C6.out.mono ?_; rintro e w1 ⟨rfl, hb1⟩; have HB1 : Hid (Below G w w1) := hb1; clear hb1)
          | (go_at_call 55; refine (C7.out _).mono ?_; rintro e w2 ⟨rfl, hb2⟩; have HB2 : Hid (Below G w w2) := HB1.out.trans (hb2.mono (Nat.le_trans HGS.out HB1.out.size)); clear hb2)
          | (go_at_call 56; refine (C8.out _ HB2.out).mono ?_; rintro e w3 ⟨rfl, rfl⟩)
          | fail)
        go_ret
        exact ⟨rfl, HB2.out⟩
      | false =>
      cases b9 with
      | true =>
        go_enter Tryz.func29, Tryz.ntmps29
        go_wp2_with (first
          | (go_at_call 54; refine C6.out.mono ?_; rintro e w1 ⟨rfl, hb1⟩; have HB1 : Hid (Below G w w1) := hb1; clear hb1)
          | (go_at_call 55; refine (C7.out _).mono ?_; rintro e w2 ⟨rfl, hb2⟩; have HB2 : Hid (Below G w w2) := HB1.out.trans (hb2.mono (Nat.le_trans HGS.out HB1.out.size)); clear hb2)
          | (go_at_call 56; refine (C8.out _ HB2.out).mono ?_; rintro e w3 ⟨rfl, rfl⟩)
          | (go_at_call 56; refine (C9.out _ HB2.out).mono ?_; rintro e w3 ⟨rfl, rfl⟩)
          | fail)
        go_ret
        exact ⟨rfl, HB2.out⟩
      | false =>
        go_enter Tryz.func29, Tryz.ntmps29
        go_wp2_with (first
          | (go_at_call 54; refine C6.out.mono ?_; rintro e w1 ⟨rfl, hb1⟩; have HB1 : Hid (Below G w w1) := hb1; clear hb1)
          | (go_at_call 55; refine (C7.out _).mono ?_; rintro e w2 ⟨rfl, hb2⟩; have HB2 : Hid (Below G w w2) := HB1.out.trans (hb2.mono (Nat.le_trans HGS.out HB1.out.size)); clear hb2)
          | (go_at_call 56; refine (C8.out _ HB2.out).mono ?_; rintro e w3 ⟨rfl, rfl⟩)
          | (go_at_call 56; refine (C9.out _ HB2.out).mono ?_; rintro e w3 ⟨rfl, rfl⟩)
          | (go_at_call 57; refine (C10.out _).mono ?_; rintro e w3 ⟨rfl, rfl⟩)
          | fail)
        go_ret
        exact ⟨by cases b10 <;> rfl, HB2.out⟩
    · have h60i : ¬ (n : Int) ≤ 60 := by omega
      rw [decide_eq_false h60]
      go_enter Tryz.func29, Tryz.ntmps29
      go_wp2
      go_ret
      exact ⟨rfl, HB0.out⟩
end Go.Proofs.YtijeogdnjeamaaaGreatDoor.Nm
namespace Go.Proofs.YtijeogdnjeamaaaGreatDoor.Nm
open Go.RowKit
set_option linter.unusedVariables false
set_option linter.unusedSimpArgs false
theorem idx_txt (s : List UInt8) (j : Nat) (w : World) (x : UInt8) (h : s[j]? = some x) : (Instr.index 9 (.string ⟨s.toArray⟩) (.int .i64 j)).run Tryz.prog w = .ok (.int .u8 (x.toNat : Int)) w := by
  obtain ⟨hj, hx⟩ := List.getElem?_eq_some_iff.1 h
  rw [run_index_string (P := Tryz.prog) w 9 ⟨s.toArray⟩ .i64 j Tryz.underlying9, dif_pos ⟨by omega, by rw [txt_len]; omega⟩]
  simp only [Int.toNat_natCast]
  rw [← hx]
  rfl
theorem ext_txt (s : List UInt8) (i j : Nat) : (⟨s.toArray⟩ : ByteArray).extract i j = ⟨((s.drop i).take (j - i)).toArray⟩ := by
  apply ByteArray.ext
  simp [ByteArray.data_extract, List.extract]
theorem slc_to (s : List UInt8) (j : Nat) (h : j ≤ s.length) (w : World) : (Instr.slice 9 (.string ⟨s.toArray⟩) none (some (.int .i64 j)) none).run Tryz.prog w = .ok (.string ⟨(s.take j).toArray⟩) w := by
  rw [run_slice_string_to_if w 9 _ .i64 j Tryz.underlying9, if_pos ⟨by omega, by rw [txt_len]; omega⟩, Int.toNat_natCast, ext_txt, List.drop_zero, Nat.sub_zero]
theorem slc_mid (s : List UInt8) (i j : Nat) (h1 : i ≤ j) (h2 : j ≤ s.length) (w : World) : (Instr.slice 9 (.string ⟨s.toArray⟩) (some (.int .i64 i)) (some (.int .i64 j)) none).run Tryz.prog w = .ok (.string ⟨((s.drop i).take (j - i)).toArray⟩) w := by
  rw [run_slice_string w 9 _ .i64 .i64 i j Tryz.underlying9 (by omega) (by omega) (by rw [txt_len]; omega), Int.toNat_natCast, Int.toNat_natCast, ext_txt]
def lockW : List UInt8 := [46, 108, 111, 99, 107]
theorem suf_iff (l p : List UInt8) : Lib.hasSuffix l p = (l.drop (l.length - p.length) == p) := by
  rw [Lib.hasSuffix, Bool.eq_iff_iff, List.isSuffixOf_iff_suffix, List.suffix_iff_eq_drop, beq_iff_eq]
  exact eq_comm
theorem suf_dot (s : List UInt8) (x : UInt8) (h : s[s.length - 1]? = some x) : Lib.hasSuffix s [46] = (x == 46) := by
  rw [suf_iff]
  obtain ⟨hj, hx⟩ := List.getElem?_eq_some_iff.1 h
  rw [show ([46] : List UInt8).length = 1 from rfl, List.drop_eq_getElem_cons hj, hx, List.drop_eq_nil_of_le (by omega)]
  simp
def cur (s : List UInt8) (f i : Nat) : List UInt8 := (s.drop f).take (i - f)
theorem cur_len (s : List UInt8) (f i : Nat) (h : f ≤ i) (hi : i ≤ s.length) : (cur s f i).length = i - f := by
  simp [cur]; omega
theorem part_none (s : List UInt8) (f : Nat) : partOk (cur s f f) = false := by simp [cur, partOk]
theorem part_dot (s : List UInt8) (f i : Nat) (hf : f < i) (x : UInt8) (hx : s[f]? = some x) : Lib.hasPrefix (cur s f i) [46] = (x == 46) := by
  obtain ⟨hj, hx⟩ := List.getElem?_eq_some_iff.1 hx
  rw [Lib.hasPrefix, cur, List.drop_eq_getElem_cons hj, hx, show i - f = (i - f - 1) + 1 by omega, List.take_succ_cons]
  simp [List.isPrefixOf]
  rw [Bool.eq_iff_iff]
  simp
  exact eq_comm
theorem part_lock (s : List UInt8) (f i : Nat) (hf : f + 5 ≤ i) (hi : i ≤ s.length) : Lib.hasSuffix (cur s f i) lockW = ((s.drop (i - 5)).take 5 == lockW) := by
  rw [suf_iff, cur_len s f i (by omega) hi, show lockW.length = 5 from rfl, cur, List.drop_take, List.drop_drop, show f + (i - f - 5) = i - 5 by omega, show i - f - (i - f - 5) = 5 by omega]
theorem part_short (s : List UInt8) (f i : Nat) (hf : f ≤ i) (h5 : i < f + 5) (hi : i ≤ s.length) : Lib.hasSuffix (cur s f i) lockW = false := by
  rw [suf_iff, Bool.eq_false_iff]
  intro h
  have := congrArg List.length (beq_iff_eq.1 h)
  rw [List.length_drop, cur_len s f i hf hi] at this
  simp [lockW] at this
  omega
theorem part_some (s : List UInt8) (f i : Nat) (hf : f < i) (hi : i ≤ s.length) (x : UInt8) (hx : s[f]? = some x) : partOk (cur s f i) = (!(x == 46) && !Lib.hasSuffix (cur s f i) lockW) := by
  unfold partOk
  rw [part_dot s f i hf x hx]
  have : (cur s f i).isEmpty = false := by
    have := cur_len s f i (by omega) hi
    cases h : cur s f i with
    | nil => rw [h] at this; simp at this; omega
    | cons a l => rfl
  rw [this]
  rfl
theorem cur_snoc (s : List UInt8) (f i : Nat) (hf : f ≤ i) (x : UInt8) (hx : s[i]? = some x) : cur s f (i + 1) = cur s f i ++ [x] := by
  unfold cur
  rw [show i + 1 - f = (i - f) + 1 by omega, List.take_add_one, List.getElem?_drop, show f + (i - f) = i by omega, hx]
  rfl
theorem bad_byte (x : UInt8) (c : Int) (hc : (x.toNat : Int) = c) (h : byteOk x = false) : c < 33 ∨ 126 < c ∨ c = 126 ∨ c = 94 ∨ c = 58 ∨ c = 63 ∨ c = 42 ∨ c = 91 ∨ c = 92 := by
  by_cases h1 : c < 33
  · exact .inl h1
  · by_cases h2 : 126 < c
    · exact .inr (.inl h2)
    · unfold byteOk at h
      rw [decide_eq_true (by omega), decide_eq_true (by omega)] at h
      simp at h
      have h' : x = 126 ∨ x = 94 ∨ x = 58 ∨ x = 63 ∨ x = 42 ∨ x = 91 ∨ x = 92 := by
        apply Classical.byContradiction
        intro hn
        simp only [not_or] at hn
        exact hn.2.2.2.2.2.2 (h hn.1 hn.2.1 hn.2.2.1 hn.2.2.2.1 hn.2.2.2.2.1 hn.2.2.2.2.2.1)
      rcases h' with rfl | rfl | rfl | rfl | rfl | rfl | rfl <;> subst hc <;> decide
theorem good_byte (x : UInt8) (c : Int) (hc : (x.toNat : Int) = c) (h : byteOk x = true) : 33 ≤ c ∧ c ≤ 126 ∧ c ≠ 126 ∧ c ≠ 94 ∧ c ≠ 58 ∧ c ≠ 63 ∧ c ≠ 42 ∧ c ≠ 91 ∧ c ≠ 92 := by
  unfold byteOk at h
  simp at h
  obtain ⟨⟨h1, h2⟩, h3⟩ := h
  have hn : ∀ n : Nat, n < 256 → x ≠ UInt8.ofNat n → c ≠ n := fun n hn hx e => hx (UInt8.toNat_inj.1 (by
    have : x.toNat = n := by omega
    rw [this]
    simp
    omega))
  refine ⟨by omega, by omega, hn 126 (by decide) h3.1, hn 94 (by decide) h3.2.1, hn 58 (by decide) h3.2.2.1, hn 63 (by decide) h3.2.2.2.1, hn 42 (by decide) h3.2.2.2.2.1, hn 91 (by decide) h3.2.2.2.2.2.1, hn 92 (by decide) h3.2.2.2.2.2.2⟩
theorem byte_num (x : UInt8) (n : Nat) (hn : n < 256) : ((x.toNat : Int) = (n : Int)) ↔ x = UInt8.ofNat n := by
  constructor
  · intro h
    exact UInt8.toNat_inj.1 (by
      have : x.toNat = n := by omega
      rw [this]
      simp
      omega)
  · intro h
    rw [h]
    simp
    omega
end Go.Proofs.YtijeogdnjeamaaaGreatDoor.Nm
