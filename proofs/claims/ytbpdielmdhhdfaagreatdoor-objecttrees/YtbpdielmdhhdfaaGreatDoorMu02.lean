import Derived.Test.YtbpdielmdhhdfaaGreatDoorMu01
import Derived.Lib.IndexMore
import Derived.Lib.Strings
import Derived.Lib.ItoaNum
import Derived.Shelf.Strings.OnBuilder
import Derived.Shelf.LaysM
import Derived.Shelf.Strconv.Itoa3
import Derived.Test.YtbpdielmdhhdfaaGreatDoorProg
/- Chapter 3.1, plain: headers, and what they are cut into. -/
namespace Go.Proofs.YtbpdielmdhhdfaaGreatDoor
open Go.RowKit
set_option linter.unusedVariables false
set_option linter.unusedSimpArgs false
/-- Behind the first c: what stands ahead of it, and behind. -/
theorem index_one (c : UInt8) : ∀ s : List UInt8, (c ∉ s ∧ Lib.index s [c] = -1) ∨ ∃ a d, s = a ++ c :: d ∧ c ∉ a ∧ Lib.index s [c] = (a.length : Int)
  | [] => .inl ⟨by simp, rfl⟩
  | b :: l => by
    by_cases hb : b = c
    · subst hb
      refine .inr ⟨[], l, rfl, by simp, ?_⟩
      unfold Lib.index
      simp
    · have h0 : [c].isPrefixOf (b :: l) = false := by simp [List.isPrefixOf, Ne.symm hb]
      rcases index_one c l with ⟨h1, h2⟩ | ⟨a, d, h1, h2, h3⟩
      · refine .inl ⟨by simp [Ne.symm hb, h1], ?_⟩
        unfold Lib.index
        rw [h0, h2]; rfl
      · refine .inr ⟨b :: a, d, by rw [h1]; rfl, by simp [Ne.symm hb, h2], ?_⟩
        unfold Lib.index
        rw [h0, h3]
        have : ((a.length : Int) == -1) = false := by rw [beq_eq_false_iff_ne]; omega
        simp [this]
theorem first_same {c : UInt8} : ∀ {a a' d d' : List UInt8}, c ∉ a → c ∉ a' → a ++ c :: d = a' ++ c :: d' → a = a' ∧ d = d'
  | [], [], d, d', _, _, h => by simpa using h
  | [], b :: l, d, d', _, h2, h => by simp at h; simp [h.1] at h2
  | b :: l, [], d, d', h1, _, h => by simp at h; simp [h.1] at h1
  | b :: l, b' :: l', d, d', h1, h2, h => by
    simp only [List.cons_append, List.cons.injEq] at h
    obtain ⟨rfl, h⟩ := h
    simp only [List.mem_cons, not_or] at h1 h2
    obtain ⟨rfl, rfl⟩ := first_same h1.2 h2.2 h
    exact ⟨rfl, rfl⟩
theorem dig_mem : ∀ (_n m : Nat), m ≤ _n → ∀ x ∈ Lib.decDigits m, 48 ≤ x.toNat ∧ x.toNat ≤ 57
  | n, m, hm, x, hx => by
    rw [Lib.decDigits] at hx
    split at hx
    · rename_i h
      simp only [List.mem_singleton] at hx
      subst hx
      rw [UInt8.toNat_ofNat']
      omega
    · rename_i h
      simp only [List.mem_append, List.mem_singleton] at hx
      rcases hx with hx | hx
      · exact dig_mem (n / 10) (m / 10) (by omega) x hx
      · subst hx
        rw [UInt8.toNat_ofNat']
        omega
  termination_by n m => m
  decreasing_by omega
theorem dig_not (m : Nat) (c : UInt8) (h : c.toNat < 48) : c ∉ Lib.decDigits m := fun hx => by
  have := (dig_mem m m (Nat.le_refl _) c hx).1
  omega
/-- 3.1: a header, without its last byte; with it. -/
def h0 (k : Int) (n : Nat) : List UInt8 := (kN k).data.toList ++ 32 :: Lib.decDigits n
def hd (k : Int) (n : Nat) : List UInt8 := h0 k n ++ [0]
theorem kN_list (k : Int) : (kN k).data.toList = if k == 1 then [99, 111, 109, 109, 105, 116] else if k == 2 then [116, 114, 101, 101] else if k == 3 then [98, 108, 111, 98] else if k == 4 then [116, 97, 103] else [] := by
  unfold kN
  split
  · rfl
  · split
    · rfl
    · split
      · rfl
      · split
        · rfl
        · rfl
theorem kN_not (k : Int) (c : UInt8) (h : c.toNat < 48) : c ∉ (kN k).data.toList := by
  rw [kN_list]
  intro hx
  split at hx
  · simp at hx; rcases hx with rfl | rfl | rfl | rfl | rfl <;> simp at h
  · split at hx
    · simp at hx; rcases hx with rfl | rfl | rfl <;> simp at h
    · split at hx
      · simp at hx; rcases hx with rfl | rfl | rfl | rfl <;> simp at h
      · split at hx
        · simp at hx; rcases hx with rfl | rfl | rfl <;> simp at h
        · simp at hx
theorem kN_inj (i j : Nat) (hi : 1 ≤ i) (hi' : i ≤ 4) (hj : 1 ≤ j) (hj' : j ≤ 4) (h : (kN i).data.toList = (kN j).data.toList) : i = j := by
  rw [kN_list, kN_list] at h
  have e1 : i = 1 ∨ i = 2 ∨ i = 3 ∨ i = 4 := by omega
  have e2 : j = 1 ∨ j = 2 ∨ j = 3 ∨ j = 4 := by omega
  rcases e1 with rfl | rfl | rfl | rfl <;> rcases e2 with rfl | rfl | rfl | rfl <;> first | rfl | (simp at h)
theorem h0_zero (k : Int) (n : Nat) : (0 : UInt8) ∉ h0 k n := by
  unfold h0
  simp only [List.mem_append, List.mem_cons, not_or]
  exact ⟨kN_not k 0 (by decide), by decide, dig_not n 0 (by decide)⟩
/-- 3.1: these bytes are that object, encoded. -/
structure Gd (B : List UInt8) (k : Nat) (D : List UInt8) : Prop where
  lo : 1 ≤ k
  hi : k ≤ 4
  len : D.length ≤ 100000
  eq : B = hd k D.length ++ D
theorem Gd.cut {B : List UInt8} {k : Nat} {D a d : List UInt8} (h : Gd B k D) (hb : B = a ++ 0 :: d) (ha : (0 : UInt8) ∉ a) : a = h0 k D.length ∧ d = D := by
  have e := h.eq
  rw [hb] at e
  have e' : a ++ 0 :: d = h0 k D.length ++ 0 :: D := by rw [e, hd]; simp
  exact first_same ha (h0_zero _ _) e'
theorem Gd.has {B : List UInt8} {k : Nat} {D : List UInt8} (h : Gd B k D) : (0 : UInt8) ∈ B := by rw [h.eq, hd]; simp
theorem Gd.name {B : List UInt8} {k : Nat} {D a d : List UInt8} (h : Gd B k D) (hb : B = a ++ 0 :: d) (ha : (0 : UInt8) ∉ a) : (Lib.cut a [32]).1 = (kN k).data.toList := by
  obtain ⟨rfl, rfl⟩ := h.cut hb ha
  rcases index_one 32 (h0 k d.length) with ⟨h1, h2⟩ | ⟨a', d', h1, h2, h3⟩
  · exact absurd (by unfold h0; simp) h1
  · have e : a' = (kN k).data.toList ∧ d' = Lib.decDigits d.length := first_same h2 (kN_not _ _ (by decide)) (by rw [← h1]; rfl)
    unfold Lib.cut
    rw [if_pos (by omega), h3]
    simp only [Int.toNat_natCast]
    rw [h1, ← e.1]
    simp
theorem gd_of {B : List UInt8} {k : Nat} {a d : List UInt8} (h1 : 1 ≤ k) (h4 : k ≤ 4) (hl : d.length ≤ 100000) (hb : B = a ++ 0 :: d) (ha : (0 : UInt8) ∉ a) (hp : Lib.hasPrefix B (hd k d.length) = true) : Gd B k d := by
  refine ⟨h1, h4, hl, ?_⟩
  obtain ⟨t, ht⟩ := List.isPrefixOf_iff_prefix.1 hp
  have e : a ++ 0 :: d = h0 k d.length ++ 0 :: t := by rw [← hb, ← ht, hd]; simp
  obtain ⟨rfl, rfl⟩ := first_same ha (h0_zero _ _) e
  exact ht.symm
theorem Gd.prefix {B : List UInt8} {k : Nat} {D : List UInt8} (h : Gd B k D) : Lib.hasPrefix B (hd k D.length) = true := List.isPrefixOf_iff_prefix.2 ⟨D, h.eq.symm⟩
theorem Gd.one {B : List UInt8} {k k' : Nat} {D D' : List UInt8} (h : Gd B k D) (h' : Gd B k' D') : k = k' ∧ D = D' := by
  have hb : B = h0 k D.length ++ 0 :: D := by rw [h.eq, hd]; simp
  have n1 := h.name hb (h0_zero _ _)
  have n2 := h'.name hb (h0_zero _ _)
  exact ⟨kN_inj k k' h.lo h.hi h'.lo h'.hi (n1.symm.trans n2), (h'.cut hb (h0_zero _ _)).2⟩
end Go.Proofs.YtbpdielmdhhdfaaGreatDoor
/- Contracts of the library at this seat, laid. -/
namespace Go.Proofs
open Go.Shelf
def Tryz.lays156_ren : Go.Shelf.Ren := ⟨fun | 156 => 94 | 165 => 130 | 166 => 131 | 169 => 132 | 240 => 166 | 241 => 167 | 276 => 201 | 277 => 202 | n => n, fun | 31 => 112 | 9 => 9 | 3 => 3 | 4 => 4 | 0 => 0 | 20 => 20 | 72 => 212 | 76 => 214 | 70 => 210 | 37 => 23 | 75 => 28 | 127 => 247 | 164 => 134 | 5 => 5 | 80 => 216 | n => n, fun | n => n⟩
theorem Tryz.lays156 : Go.Proofs.Lays.n156 Tryz.prog Tryz.lays156_ren := {
  mixed := by kernel_rfl
  f156 := Tryz.func94.trans (congrArg some (by kernel_rfl))
  f165 := Tryz.func130.trans (congrArg some (by kernel_rfl))
  f166 := Tryz.func131.trans (congrArg some (by kernel_rfl))
  f169 := Tryz.func132.trans (congrArg some (by kernel_rfl))
  f240 := Tryz.func166.trans (congrArg some (by kernel_rfl))
  f241 := Tryz.func167.trans (congrArg some (by kernel_rfl))
  f276 := Tryz.func201.trans (congrArg some (by kernel_rfl))
  f277 := Tryz.func202.trans (congrArg some (by kernel_rfl))
  t0 := Tryz.underlying0
  a0 := Tryz.isAgg0
  z0 := Tryz.sizeOf0
  v0 := Tryz.zeroValue0
  t3 := Tryz.underlying3
  a3 := Tryz.isAgg3
  z3 := Tryz.sizeOf3
  v3 := Tryz.zeroValue3
  t4 := Tryz.underlying4
  a4 := Tryz.isAgg4
  z4 := Tryz.sizeOf4
  v4 := Tryz.zeroValue4
  t9 := Tryz.underlying9
  a9 := Tryz.isAgg9
  z9 := Tryz.sizeOf9
  v9 := Tryz.zeroValue9
  t20 := Tryz.underlying20
  a20 := Tryz.isAgg20
  z20 := Tryz.sizeOf20
  v20 := Tryz.zeroValue20
  t31 := Tryz.underlying112
  a31 := Tryz.isAgg112
  z31 := Tryz.sizeOf112
  v31 := Tryz.zeroValue112
  t37 := Tryz.underlying23
  a37 := Tryz.isAgg23
  z37 := Tryz.sizeOf23
  v37 := Tryz.zeroValue23
  t70 := Tryz.underlying210
  a70 := Tryz.isAgg210
  z70 := Tryz.sizeOf210
  v70 := Tryz.zeroValue210
  t72 := Tryz.underlying212
  a72 := Tryz.isAgg212
  z72 := Tryz.sizeOf212
  v72 := Tryz.zeroValue212
  t75 := Tryz.underlying28
  a75 := Tryz.isAgg28
  z75 := Tryz.sizeOf28
  v75 := Tryz.zeroValue28
  t76 := Tryz.underlying214
  a76 := Tryz.isAgg214
  z76 := Tryz.sizeOf214
  v76 := Tryz.zeroValue214
  t127 := Tryz.underlying247
  a127 := Tryz.isAgg247
  z127 := Tryz.sizeOf247
  v127 := Tryz.zeroValue247
  t164 := Tryz.underlying134
  a164 := Tryz.isAgg134
  z164 := Tryz.sizeOf134
  v164 := Tryz.zeroValue134 }
theorem Tryz.Builder_Extra_156 : Builder.Extra Tryz.prog Tryz.lays156_ren := {
  sizeBuilder := by kernel_rfl
  liesBuilder := by kernel_rfl
  t5 := Tryz.underlying5
  a5 := Tryz.isAgg5
  z5 := Tryz.sizeOf5
  v5 := Tryz.zeroValue5
  infoByte := by kernel_rfl
  cellsByte := by kernel_rfl
  sizeByte := by kernel_rfl
  neB5 := by decide }
open Go.RowKit in
theorem Tryz.strings_Join_none (a : Option Addr) (c : Nat) (sep : ByteArray) (w : World) :
    Calls Tryz.prog 94 #[.slice a 0 c, .string sep] w fun e w' => e = .returned (.string ⟨#[]⟩) ∧ w' = w := Any.strings_Join_none Tryz.lays156 Tryz.Builder_Extra_156 a c sep w
open Go.RowKit in
theorem Tryz.strings_Join (bk o c : Nat) (xs : List ByteArray) (sep : ByteArray) (w : World) (hcells : ∀ (j : Nat) x, xs[j]? = some x → w.cell? ⟨bk, o + j, none⟩ = some (.string x)) (hbk : bk < w.heap.size) (hN : xs.length ≤ 140737488355328) (hcap : xs.length ≤ c) (hlen : (Lib.join (xs.map (·.data.toList)) sep.data.toList).length ≤ 140737488355328) :
    Calls Tryz.prog 94 #[.slice (some ⟨bk, o, none⟩) xs.length c, .string sep] w fun e w' => e = .returned (.string ⟨(Lib.join (xs.map (·.data.toList)) sep.data.toList).toArray⟩) ∧ Below w.heap.size w w' := Any.strings_Join Tryz.lays156 Tryz.Builder_Extra_156 bk o c xs sep w hcells hbk hN hcap hlen
def Tryz.laysM171_ren : Go.Shelf.Ren := ⟨fun | 171 => 72 | 243 => 114 | 246 => 133 | 283 => 168 | 284 => 169 | 285 => 170 | 286 => 171 | 129 => 164 | 317 => 203 | 318 => 204 | 319 => 205 | 320 => 206 | 337 => 220 | 338 => 221 | n => n, fun | 3 => 3 | 9 => 9 | 2 => 2 | 4 => 4 | 171 => 248 | 0 => 0 | 53 => 147 | 37 => 23 | 5 => 5 | 173 => 250 | 212 => 278 | 51 => 148 | 20 => 20 | 213 => 279 | 46 => 170 | 232 => 295 | 233 => 182 | n => n, fun | 17 => 2 | 18 => 3 | 19 => 4 | n => n⟩
theorem Tryz.laysM171 : Go.Proofs.LaysM.n171 Tryz.prog Tryz.laysM171_ren := {
  mixed := by kernel_rfl
  f129 := Tryz.func164.trans (congrArg some (by kernel_rfl))
  f171 := Tryz.func72.trans (congrArg some (by kernel_rfl))
  f243 := Tryz.func114.trans (congrArg some (by kernel_rfl))
  f246 := Tryz.func133.trans (congrArg some (by kernel_rfl))
  f283 := Tryz.func168.trans (congrArg some (by kernel_rfl))
  f284 := Tryz.func169.trans (congrArg some (by kernel_rfl))
  f285 := Tryz.func170.trans (congrArg some (by kernel_rfl))
  f286 := Tryz.func171.trans (congrArg some (by kernel_rfl))
  f317 := Tryz.func203.trans (congrArg some (by kernel_rfl))
  f318 := Tryz.func204.trans (congrArg some (by kernel_rfl))
  f319 := Tryz.func205.trans (congrArg some (by kernel_rfl))
  f320 := Tryz.func206.trans (congrArg some (by kernel_rfl))
  f337 := Tryz.func220.trans (congrArg some (by kernel_rfl))
  f338 := Tryz.func221.trans (congrArg some (by kernel_rfl))
  t0 := Tryz.underlying0
  a0 := Tryz.isAgg0
  z0 := Tryz.sizeOf0
  v0 := Tryz.zeroValue0
  t2 := Tryz.underlying2
  a2 := Tryz.isAgg2
  z2 := Tryz.sizeOf2
  v2 := Tryz.zeroValue2
  t3 := Tryz.underlying3
  a3 := Tryz.isAgg3
  z3 := Tryz.sizeOf3
  v3 := Tryz.zeroValue3
  t4 := Tryz.underlying4
  a4 := Tryz.isAgg4
  z4 := Tryz.sizeOf4
  v4 := Tryz.zeroValue4
  t5 := Tryz.underlying5
  a5 := Tryz.isAgg5
  z5 := Tryz.sizeOf5
  v5 := Tryz.zeroValue5
  t9 := Tryz.underlying9
  a9 := Tryz.isAgg9
  z9 := Tryz.sizeOf9
  v9 := Tryz.zeroValue9
  t20 := Tryz.underlying20
  a20 := Tryz.isAgg20
  z20 := Tryz.sizeOf20
  v20 := Tryz.zeroValue20
  t37 := Tryz.underlying23
  a37 := Tryz.isAgg23
  z37 := Tryz.sizeOf23
  v37 := Tryz.zeroValue23
  t46 := Tryz.underlying170
  a46 := Tryz.isAgg170
  z46 := Tryz.sizeOf170
  v46 := Tryz.zeroValue170
  t51 := Tryz.underlying148
  a51 := Tryz.isAgg148
  z51 := Tryz.sizeOf148
  v51 := Tryz.zeroValue148
  t53 := Tryz.underlying147
  a53 := Tryz.isAgg147
  z53 := Tryz.sizeOf147
  v53 := Tryz.zeroValue147
  t171 := Tryz.underlying248
  a171 := Tryz.isAgg248
  z171 := Tryz.sizeOf248
  v171 := Tryz.zeroValue248
  t173 := Tryz.underlying250
  a173 := Tryz.isAgg250
  z173 := Tryz.sizeOf250
  v173 := Tryz.zeroValue250
  t212 := Tryz.underlying278
  a212 := Tryz.isAgg278
  z212 := Tryz.sizeOf278
  v212 := Tryz.zeroValue278
  t213 := Tryz.underlying279
  a213 := Tryz.isAgg279
  z213 := Tryz.sizeOf279
  t232 := Tryz.underlying295
  a232 := Tryz.isAgg295
  z232 := Tryz.sizeOf295
  v232 := Tryz.zeroValue295
  t233 := Tryz.underlying182
  a233 := Tryz.isAgg182
  z233 := Tryz.sizeOf182
  v233 := Tryz.zeroValue182
  g17 := by kernel_rfl
  g18 := by kernel_rfl
  g19 := by kernel_rfl
  i0 := by kernel_rfl
  i2 := by kernel_rfl
  i3 := by kernel_rfl
  i4 := by kernel_rfl
  i5 := by kernel_rfl
  i9 := by kernel_rfl
  i20 := by kernel_rfl
  i37 := by kernel_rfl
  i46 := by kernel_rfl
  i51 := by kernel_rfl
  i53 := by kernel_rfl
  i171 := by kernel_rfl
  i173 := by kernel_rfl
  i212 := by kernel_rfl
  i232 := by kernel_rfl
  i233 := by kernel_rfl
  m17 := by kernel_rfl
  m18 := by kernel_rfl
  m19 := by kernel_rfl }
open Go.RowKit Go.Sort Go.Lib in
theorem Tryz.strconv_Itoa (n : Int) (h0 : -9223372036854775808 ≤ n) (h1 : n ≤ 9223372036854775807) (w : World) (htab : Lib.TabIs Tryz.prog w "internal/strconv.uint64pow10" .u64 Lib.pow10Tab) :
    Calls Tryz.prog 72 #[.int .i64 n] w fun e w' => e = .returned (.string ⟨(Lib.itoa n).toArray⟩) ∧ ∃ k os, w' = grow (w.drewN k) os := Any.strconv_Itoa Tryz.laysM171 n h0 h1 w htab
end Go.Proofs
/- Package object: 'words', 'header'. -/
namespace Go.Proofs.YtbpdielmdhhdfaaGreatDoor
open Go.RowKit
set_option linter.unusedVariables false
set_option linter.unusedSimpArgs false
/-- The table of the powers of ten lies as its initialiser lays it. -/
def Tab (w : World) : Prop := Lib.TabIs Tryz.prog w "internal/strconv.uint64pow10" .u64 Lib.pow10Tab
theorem pow_at : Tryz.prog.globalNamed "internal/strconv.uint64pow10" = some 2 := by kernel_rfl
theorem Tab.below {w w' : World} (h : Tab w) (hb : Below w.heap.size w w') : Tab w' := by
  have hg := pow_at
  unfold Tab Lib.TabIs World.var? at h ⊢
  rw [hg] at h ⊢
  simp only [Option.bind_some] at h ⊢
  have hlt : 2 < w.heap.size := by
    rcases Nat.lt_or_ge 2 w.heap.size with h' | h'
    · exact h'
    · rw [Array.getElem?_eq_none h'] at h; cases h
  rw [hb.block 2 hlt]
  exact h
theorem itoa_any (n : Nat) (hn : n ≤ 400000) (w : World) (ht : Tab w) : Calls Tryz.prog 72 #[.int .i64 n] w fun e w' => e = .returned (.string ⟨(Lib.decDigits n).toArray⟩) ∧ Below w.heap.size w w' := by
  refine (Tryz.strconv_Itoa n (by omega) (by omega) w ht).mono ?_
  rintro e w' ⟨rfl, k, os, rfl⟩
  refine ⟨?_, rfl, rfl, rfl, by simp [Sort.grow], fun j hj => ?_⟩
  · rw [Lib.itoa_nonneg]
  · show (w.heap ++ os)[j]? = _
    rw [Array.getElem?_append_left hj]
set_option maxRecDepth 20000 in
theorem words_any (bk o c : Nat) (xs : List ByteArray) (w : World) (hcells : ∀ (j : Nat) x, xs[j]? = some x → w.cell? ⟨bk, o + j, none⟩ = some (.string x)) (hbk : bk < w.heap.size) (hN : xs.length ≤ 1000) (hcap : xs.length ≤ c)
    (hlen : (Lib.join (xs.map (·.data.toList)) [32]).length ≤ 1000000) :
    Calls Tryz.prog 46 #[.slice (some ⟨bk, o, none⟩) xs.length c] w fun e w' => e = .returned (.string ⟨(Lib.join (xs.map (·.data.toList)) [32]).toArray⟩) ∧ Below w.heap.size w w' := by
  have HJ : Hid (Calls Tryz.prog 94 #[.slice (some ⟨bk, o, none⟩) xs.length c, .string ⟨#[32]⟩] w fun e w' => e = .returned (.string ⟨(Lib.join (xs.map (·.data.toList)) [32]).toArray⟩) ∧ Below w.heap.size w w') :=
    Tryz.strings_Join bk o c xs ⟨#[32]⟩ w hcells hbk (by omega) hcap (Nat.le_trans hlen (by decide))
  clear hcells hlen
  go_enter Tryz.func46, Tryz.ntmps46
  go_wp2_with fail
  refine HJ.out.mono ?_
  rintro e w' ⟨rfl, hb⟩
  go_wp2
  go_ret
  exact ⟨rfl, hb⟩
end Go.Proofs.YtbpdielmdhhdfaaGreatDoor
