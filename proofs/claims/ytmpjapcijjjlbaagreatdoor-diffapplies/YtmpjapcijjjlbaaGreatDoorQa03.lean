import Derived.Test.YtmpjapcijjjlbaaGreatDoorQa02
import Derived.OwnWalk
import Derived.Test.YtmpjapcijjjlbaaGreatDoorQa01
import Derived.Laws.CopyOwn
import Derived.Laws.IdiomCopy
import Derived.Deep.QuietTactic
import Derived.BigQuiet
import Derived.Lib.MinMax
import Derived.Shelf.LaysM
import Derived.Shelf.Strconv.Itoa3
import Derived.Shelf.Pu.ParseUintPublic10
import Derived.Shelf.Strings.Builder1
import Derived.Shelf.Strings.BuilderX
import Derived.Shelf.Strings.OnBuilder
import Derived.Shelf.Strings.Search3
import Derived.Shelf.Strings.Cut
import Derived.Shelf.Strings.Prefix
import Derived.Shelf.Bytes.SlEqualAll
import Derived.Test.YtmpjapcijjjlbaaGreatDoorProg
import Derived.Lib.ItoaNum
namespace Go.Proofs.YtmpjapcijjjlbaaGreatDoor
open Go.RowKit
set_option linter.unusedVariables false
set_option linter.unusedSimpArgs false
theorem base_mono {w : World} {B B' : Nat} {e : TypeId} {s : Nat} {v : Value} {n : Nat} {xs : List Value} (h : w.ownsRow B' e s v n xs) (hB : B ≤ B') : w.ownsRow B e s v n xs := by
  obtain ⟨hl, h1 | ⟨g, c, cur, h1, h2, h3⟩⟩ := h
  · exact ⟨hl, .inl h1⟩
  · exact ⟨hl, .inr ⟨g, c, cur, h1, Nat.le_trans hB h2, h3⟩⟩
theorem collect_any (Bs : Nat) (s : Str) (hl : s.length ≤ 1000000) (w00 w : World) (hb0 : Below w00.heap.size w00 w) (hB0 : w00.heap.size ≤ Bs) (hbs : Boxed w Bs 9 (sV s)) :
    Calls Tryz.prog 28 #[.func (.func 52) #[] #[.pointer (some ⟨Bs, 0, none⟩)]] w (PostK (lns s) w00 w) := by
  have HC : Hid (Calls Tryz.prog 51 #[.slice none 0 0, .func (.func 52) #[] #[.pointer (some ⟨Bs, 0, none⟩)]] w (PostK (lns s) w00 w)) := appendSeq_any Bs s hl w00 w hb0 hB0 hbs
  clear hb0 hbs
  go_enter Tryz.func28, Tryz.ntmps28
  go_wp2_with fail
  refine HC.out.mono ?_
  rintro e w1 ⟨v, rfl, ho, hb⟩
  have HO : Hid (w1.ownsRow w.heap.size 9 1 v (lns s).length (fS (lns s))) := ho
  have HB : Hid (Below w00.heap.size w00 w1) := hb
  clear ho hb
  go_wp2
  go_ret
  exact ⟨v, rfl, HO.out, HB.out⟩
theorem seq_call (s : Str) (w : World) : Calls Tryz.prog 29 #[sV s] w fun e w' => e = .returned (.func (.func 52) #[] #[.pointer (some ⟨w.heap.size, 0, none⟩)]) ∧ w' = w.alloc (.cells #[sV s] 9) := by
  unfold sV
  go_enter Tryz.func29, Tryz.ntmps29
  go_wp2
  go_ret
  exact ⟨rfl, rfl⟩
theorem lines_any {w : World} (a : Option Addr) (cap : Nat) (s : Str) (hP : PB w a cap s) (hn : s.length ≤ 1000000) :
    Calls Tryz.prog 15 #[.slice a s.length cap] w (PostS (lns s) w) := by
  obtain ⟨n, HN⟩ : ∃ n, Hid (s.length = n) := ⟨_, rfl⟩
  obtain ⟨T, HT⟩ : ∃ T, Hid (sV s = T) := ⟨_, rfl⟩
  have hcv : (convert 22 9 (.slice a n cap)).run Tryz.prog w = .ok T w := by rw [← HN.out, ← HT.out]; exact conv_str hP
  obtain ⟨w1, HW1⟩ : ∃ u, Hid (w.alloc (.cells #[T] 9) = u) := ⟨_, rfl⟩
  have C15 : Hid (Calls Tryz.prog 29 #[T] w fun e w' => e = .returned (.func (.func 52) #[] #[.pointer (some ⟨w.heap.size, 0, none⟩)]) ∧ w' = w1) := hid (by rw [← HW1.out, ← HT.out]; exact seq_call s w)
  have hb1 : Below w.heap.size w w1 := by rw [← HW1.out]; exact (Below.refl _ w).alloc (Nat.le_refl _) _
  have C14 : Hid (Calls Tryz.prog 28 #[.func (.func 52) #[] #[.pointer (some ⟨w.heap.size, 0, none⟩)]] w1 (PostK (lns s) w w1)) := hid (collect_any w.heap.size s hn w w1 hb1 (Nat.le_refl _) (by rw [← HW1.out, HT.out]; exact Boxed.new w 9 T))
  have HS1 : Hid (w.heap.size ≤ w1.heap.size) := hb1.size
  rw [HN.out]
  clear hP hn hb1
  go_enter Tryz.func15, Tryz.ntmps15
  go_wp2_with fail
  refine C15.out.mono ?_
  rintro e w2 ⟨rfl, rfl⟩
  go_wp2_with fail
  refine C14.out.mono ?_
  rintro e w3 ⟨v, rfl, ho, hb⟩
  have HO : Hid (w3.ownsRow w2.heap.size 9 1 v (lns s).length (fS (lns s))) := ho
  have HB : Hid (Below w.heap.size w w3) := hb
  clear ho hb
  go_wp2
  go_ret
  exact ⟨v, rfl, HB.out, base_mono HO.out HS1.out, HB.out.size⟩
end Go.Proofs.YtmpjapcijjjlbaaGreatDoor
namespace Go.Proofs.YtmpjapcijjjlbaaGreatDoor
open Go.RowKit
set_option linter.unusedVariables false
set_option linter.unusedSimpArgs false
def setAt : List Value → Nat → List Value → List Value
  | l, _, [] => l
  | l, o, v :: vs => setAt (l.set o v) (o + 1) vs
theorem setAt_mid : ∀ (new old pre rest : List Value), new.length = old.length → setAt (pre ++ (old ++ rest)) pre.length new = pre ++ (new ++ rest)
  | [], [], pre, rest, _ => rfl
  | v :: new, x :: old, pre, rest, h => by
    show setAt ((pre ++ (x :: (old ++ rest))).set pre.length v) (pre.length + 1) new = _
    rw [List.set_append_right _ _ (Nat.le_refl _), Nat.sub_self, List.set_cons_zero]
    have := setAt_mid new old (pre ++ [v]) rest (by simpa using h)
    simpa using this
theorem owns_set {base : Nat} {e : TypeId} {size g n cap : Nat} : ∀ (vs : List Value) (o : Nat) (w : World) (xs : List Value), w.ownsRow base e size (.slice (some ⟨g, 0, none⟩) n cap) n xs → (w.setCells g o vs).ownsRow base e size (.slice (some ⟨g, 0, none⟩) n cap) n (setAt xs o vs) ∧ w.grownBy (w.setCells g o vs) (some g)
  | [], o, w, xs, h => ⟨h, rfl, rfl, rfl, Nat.le_refl _, fun _ _ _ => rfl⟩
  | v :: vs, o, w, xs, h => by
    have h1 := h.stored o v
    have h2 := owns_set vs (o + 1) (w.setCell ⟨g, o, none⟩ v) _ h1.1
    exact ⟨h2.1, h1.2.trans h2.2⟩
section
variable {α : Type} {enc : α → List Value} {k : Nat}
theorem set_flat (l : List α) (i : Nat) (x : α) (hi : i < l.length) (hw : ∀ y ∈ l, (enc y).length = k) (hx : (enc x).length = k) : setAt (l.flatMap enc) (i * k) (enc x) = (l.set i x).flatMap enc := by
  have e1 : l = l.take i ++ l[i] :: l.drop (i + 1) := by rw [← List.drop_eq_getElem_cons hi, List.take_append_drop]
  have e2 : l.set i x = l.take i ++ x :: l.drop (i + 1) := List.set_eq_take_append_cons_drop.trans (by rw [if_pos hi])
  have hl : ((l.take i).flatMap enc).length = i * k := by
    rw [fX_len (k := k) _ (fun y hy => hw y (List.mem_of_mem_take hy)), List.length_take, Nat.min_eq_left (Nat.le_of_lt hi)]
  rw [e2]
  conv => lhs; rw [e1]
  rw [List.flatMap_append, List.flatMap_append, List.flatMap_cons, List.flatMap_cons, ← hl, setAt_mid _ _ _ _ (by rw [hx, hw _ (List.getElem_mem hi)])]
theorem Bx.set {e : TypeId} {w0 w : World} {B g n cap : Nat} {l : List α} (h : Bx enc k e w0 w B (.slice (some ⟨g, 0, none⟩) n cap) l) (hn : l.length = n) (hB : B ≤ g) (i : Nat) (x : α) (hi : i < l.length) (hw : ∀ y ∈ l, (enc y).length = k) (hx : (enc x).length = k) :
    Bx enc k e w0 (w.setCells g (i * k) (enc x)) B (.slice (some ⟨g, 0, none⟩) n cap) (l.set i x) ∧ w.grownBy (w.setCells g (i * k) (enc x)) (some g) := by
  subst hn
  have h1 := owns_set (enc x) (i * k) w _ h.own
  rw [set_flat l i x hi hw hx] at h1
  exact ⟨⟨h.below.grown h1.2 h.le (fun k hk => by cases hk; exact hB), by rw [List.length_set]; exact h1.1, Nat.le_trans h.le h1.2.size⟩, h1.2⟩
theorem Bx.there {e : TypeId} {w0 w : World} {B g n cap : Nat} {l : List α} (h : Bx enc k e w0 w B (.slice (some ⟨g, 0, none⟩) n cap) l) (hn : l.length = n) (i : Nat) (hi : i < l.length) : w.there g (i * k) k := by
  subst hn
  intro j hj
  have hlt : i * k + j < l.length * k := by
    have : (i + 1) * k ≤ l.length * k := Nat.mul_le_mul_right k hi
    rw [Nat.add_mul] at this
    omega
  refine ⟨?_, h.own.frozenAt _⟩
  rw [h.own.cellAt _ hlt, List.getElem?_eq_getElem (by rw [h.own.1]; exact hlt)]
  rfl
end
end Go.Proofs.YtmpjapcijjjlbaaGreatDoor
namespace Go.Proofs.YtmpjapcijjjlbaaGreatDoor
set_option linter.unusedVariables false
set_option linter.unusedSimpArgs false
section
variable {α : Type} [DecidableEq α]
def lcsRow (x : α) (f : List α → Nat) : List α → Nat
  | [] => 0
  | y :: ys => if x = y then f ys + 1 else max (f (y :: ys)) (lcsRow x f ys)
def lcs : List α → List α → Nat
  | [] => fun _ => 0
  | x :: xs => lcsRow x (lcs xs)
end
abbrev Ed := Nat × Str
def edF : Nat → List Str → List Str → List Ed
  | 0, _, _ => []
  | _ + 1, [], [] => []
  | k + 1, x :: xs, [] => (1, x) :: edF k xs []
  | k + 1, [], y :: ys => (2, y) :: edF k [] ys
  | k + 1, x :: xs, y :: ys => if x = y then (0, x) :: edF k xs ys else if lcs (x :: xs) ys ≤ lcs xs (y :: ys) then (1, x) :: edF k xs (y :: ys) else (2, y) :: edF k (x :: xs) ys
def ed (xs ys : List Str) : List Ed := edF (xs.length + ys.length) xs ys
def fr : List Str → List Str → Nat
  | x :: xs, y :: ys => if x = y then fr xs ys + 1 else 0
  | _, _ => 0
def mk (k : Nat) (l : List Str) : List Ed := l.map (fun x => (k, x))
end Go.Proofs.YtmpjapcijjjlbaaGreatDoor
namespace Go.Proofs.YtmpjapcijjjlbaaGreatDoor
open Go.RowKit
set_option linter.unusedVariables false
set_option linter.unusedSimpArgs false
def encE (x : Ed) : List Value := [.int .i64 (x.1 : Int), sV x.2]
abbrev PE (w : World) (a : Option Addr) (cap : Nat) (l : List Ed) : Prop := Px encE 2 (0, []) w a cap l
abbrev BE (e : TypeId) (w0 w : World) (B : Nat) (v : Value) (l : List Ed) : Prop := Bx encE 2 e w0 w B v l
theorem encE_len (x : Ed) : (encE x).length = 2 := rfl
theorem encE_one (x : Ed) : ∀ v ∈ encE x, v.oneCell' = true := fun v hv => by
  rcases List.mem_cons.1 hv with rfl | hv
  · rfl
  · rw [List.mem_singleton.1 hv]; rfl
theorem Tryz.info43 : (Tryz.prog.info? 43).map (fun i => (i.zero, i.size, i.bytes)) = some (some (.agg #[.int .i64 0, .string ⟨#[]⟩]), 2, 24) := by kernel_rfl
theorem Tryz.info61 : (Tryz.prog.info? 61).map (fun i => (i.zero, i.size, i.bytes)) = some (some (.agg #[.int .i64 0, .string ⟨#[]⟩]), 2, 24) := by kernel_rfl
theorem und26 : Tryz.prog.underlying 23 = some (.slice 43) := by kernel_rfl
theorem run_build26 (k : Nat) (T : Value) (hT : ∃ B, T = .string B) (w : World) : (Instr.buildSlice 23 1 #[(0, .agg #[.int .i64 (k : Int), T])]).run Tryz.prog w = .ok (.slice (some ⟨w.heap.size, 0, none⟩) 1 1) (w.alloc (.cells #[.int .i64 (k : Int), T] 43)) := by
  obtain ⟨B, rfl⟩ := hT
  obtain ⟨i, hq, hz, hs, _⟩ := info_parts Tryz.info43
  refine run_buildSlice w 23 43 1 _ #[.int .i64 (k : Int), .string B] i _ Tryz.underlying23 hq hz (by rw [hs]; decide) (by rw [hs]; decide) ?_
  rw [hs]
  kernel_rfl
theorem run_build29 (k : Nat) (T : Value) (hT : ∃ B, T = .string B) (w : World) : (Instr.buildSlice 57 1 #[(0, .agg #[.int .i64 (k : Int), T])]).run Tryz.prog w = .ok (.slice (some ⟨w.heap.size, 0, none⟩) 1 1) (w.alloc (.cells #[.int .i64 (k : Int), T] 61)) := by
  obtain ⟨B, rfl⟩ := hT
  obtain ⟨i, hq, hz, hs, _⟩ := info_parts Tryz.info61
  refine run_buildSlice w 57 61 1 _ #[.int .i64 (k : Int), .string B] i _ Tryz.underlying57 hq hz (by rw [hs]; decide) (by rw [hs]; decide) ?_
  rw [hs]
  kernel_rfl
theorem pe_one (x : Ed) (e : TypeId) (w : World) : PE (w.alloc (.cells (encE x).toArray e)) (some ⟨w.heap.size, 0, none⟩) 1 [x] :=
  ⟨by simp, fun _ => ⟨w.heap.size, 0, rfl, by simp, fun i hi => by
    obtain rfl : i = 0 := by simp at hi; omega
    have := range_row (cs := encE x) (heap_alloc_new w (.cells (encE x).toArray e))
    simpa using this⟩, fun h => by cases h⟩
theorem PS.str {w : World} {b off cap : Nat} {s : List Str} (h : PS w (some ⟨b, off, none⟩) cap s) (i : Nat) (hi : i < s.length) : w.cell? ⟨b, off + i, none⟩ = some (.string ⟨(s.getD i []).toArray⟩) := PS.cell h i hi
end Go.Proofs.YtmpjapcijjjlbaaGreatDoor
namespace Go.Proofs
open Go.Shelf
def Tryz.laysM171_ren : Go.Shelf.Ren := ⟨fun | 171 => 73 | 243 => 84 | 246 => 91 | 283 => 101 | 284 => 102 | 285 => 103 | 286 => 104 | 129 => 109 | 317 => 108 | 318 => 110 | 319 => 111 | 320 => 112 | 337 => 113 | 338 => 114 | n => n, fun | 3 => 3 | 9 => 9 | 2 => 2 | 4 => 4 | 171 => 165 | 0 => 0 | 53 => 150 | 37 => 22 | 5 => 5 | 173 => 168 | 212 => 178 | 51 => 174 | 20 => 20 | 213 => 179 | 46 => 160 | 232 => 186 | 233 => 187 | n => n, fun | 17 => 4 | 18 => 5 | 19 => 6 | n => n⟩
theorem Tryz.laysM171 : Go.Proofs.LaysM.n171 Tryz.prog Tryz.laysM171_ren := {
  mixed := by kernel_rfl
  f129 := Tryz.func109.trans (congrArg some (by kernel_rfl))
  f171 := Tryz.func73.trans (congrArg some (by kernel_rfl))
  f243 := Tryz.func84.trans (congrArg some (by kernel_rfl))
  f246 := Tryz.func91.trans (congrArg some (by kernel_rfl))
  f283 := Tryz.func101.trans (congrArg some (by kernel_rfl))
  f284 := Tryz.func102.trans (congrArg some (by kernel_rfl))
  f285 := Tryz.func103.trans (congrArg some (by kernel_rfl))
  f286 := Tryz.func104.trans (congrArg some (by kernel_rfl))
  f317 := Tryz.func108.trans (congrArg some (by kernel_rfl))
  f318 := Tryz.func110.trans (congrArg some (by kernel_rfl))
  f319 := Tryz.func111.trans (congrArg some (by kernel_rfl))
  f320 := Tryz.func112.trans (congrArg some (by kernel_rfl))
  f337 := Tryz.func113.trans (congrArg some (by kernel_rfl))
  f338 := Tryz.func114.trans (congrArg some (by kernel_rfl))
  t0 := Tryz.underlying0
  a0 := Tryz.isAgg0
  z0 := Tryz.sizeOf0
  v0 := Tryz.zeroValue0
  t2 := Tryz.underlying2
  a2 := Tryz.isAgg2
  z2 := Tryz.sizeOf2
  v2 := Tryz.zeroValue2
  t3 := Tryz.underlying3
  a3 := Tryz.isAgg3
  z3 := Tryz.sizeOf3
  v3 := Tryz.zeroValue3
  t4 := Tryz.underlying4
  a4 := Tryz.isAgg4
  z4 := Tryz.sizeOf4
  v4 := Tryz.zeroValue4
  t5 := Tryz.underlying5
  a5 := Tryz.isAgg5
  z5 := Tryz.sizeOf5
  v5 := Tryz.zeroValue5
  t9 := Tryz.underlying9
  a9 := Tryz.isAgg9
  z9 := Tryz.sizeOf9
  v9 := Tryz.zeroValue9
  t20 := Tryz.underlying20
  a20 := Tryz.isAgg20
  z20 := Tryz.sizeOf20
  v20 := Tryz.zeroValue20
  t37 := Tryz.underlying22
  a37 := Tryz.isAgg22
  z37 := Tryz.sizeOf22
  v37 := Tryz.zeroValue22
  t46 := Tryz.underlying160
  a46 := Tryz.isAgg160
  z46 := Tryz.sizeOf160
  v46 := Tryz.zeroValue160
  t51 := Tryz.underlying174
  a51 := Tryz.isAgg174
  z51 := Tryz.sizeOf174
  v51 := Tryz.zeroValue174
  t53 := Tryz.underlying150
  a53 := Tryz.isAgg150
  z53 := Tryz.sizeOf150
  v53 := Tryz.zeroValue150
  t171 := Tryz.underlying165
  a171 := Tryz.isAgg165
  z171 := Tryz.sizeOf165
  v171 := Tryz.zeroValue165
  t173 := Tryz.underlying168
  a173 := Tryz.isAgg168
  z173 := Tryz.sizeOf168
  v173 := Tryz.zeroValue168
  t212 := Tryz.underlying178
  a212 := Tryz.isAgg178
  z212 := Tryz.sizeOf178
  v212 := Tryz.zeroValue178
  t213 := Tryz.underlying179
  a213 := Tryz.isAgg179
  z213 := Tryz.sizeOf179
  t232 := Tryz.underlying186
  a232 := Tryz.isAgg186
  z232 := Tryz.sizeOf186
  v232 := Tryz.zeroValue186
  t233 := Tryz.underlying187
  a233 := Tryz.isAgg187
  z233 := Tryz.sizeOf187
  v233 := Tryz.zeroValue187
  g17 := by kernel_rfl
  g18 := by kernel_rfl
  g19 := by kernel_rfl
  i0 := by kernel_rfl
  i2 := by kernel_rfl
  i3 := by kernel_rfl
  i4 := by kernel_rfl
  i5 := by kernel_rfl
  i9 := by kernel_rfl
  i20 := by kernel_rfl
  i37 := by kernel_rfl
  i46 := by kernel_rfl
  i51 := by kernel_rfl
  i53 := by kernel_rfl
  i171 := by kernel_rfl
  i173 := by kernel_rfl
  i212 := by kernel_rfl
  i232 := by kernel_rfl
  i233 := by kernel_rfl
  m17 := by kernel_rfl
  m18 := by kernel_rfl
  m19 := by kernel_rfl }
def Tryz.lays169_ren : Go.Shelf.Ren := ⟨fun | 169 => 33 | n => n, fun | 70 => 69 | 9 => 9 | 0 => 0 | 72 => 71 | 37 => 22 | 127 => 118 | 3 => 3 | 5 => 5 | n => n, fun | n => n⟩
theorem Tryz.lays169 : Go.Proofs.Lays.n169 Tryz.prog Tryz.lays169_ren := {
  mixed := by kernel_rfl
  f169 := Tryz.func33.trans (congrArg some (by kernel_rfl))
  t0 := Tryz.underlying0
  a0 := Tryz.isAgg0
  z0 := Tryz.sizeOf0
  v0 := Tryz.zeroValue0
  t3 := Tryz.underlying3
  a3 := Tryz.isAgg3
  z3 := Tryz.sizeOf3
  v3 := Tryz.zeroValue3
  t9 := Tryz.underlying9
  a9 := Tryz.isAgg9
  z9 := Tryz.sizeOf9
  v9 := Tryz.zeroValue9
  t37 := Tryz.underlying22
  a37 := Tryz.isAgg22
  z37 := Tryz.sizeOf22
  v37 := Tryz.zeroValue22
  t70 := Tryz.underlying69
  a70 := Tryz.isAgg69
  z70 := Tryz.sizeOf69
  v70 := Tryz.zeroValue69
  t72 := Tryz.underlying71
  a72 := Tryz.isAgg71
  z72 := Tryz.sizeOf71
  v72 := Tryz.zeroValue71
  t127 := Tryz.underlying118
  a127 := Tryz.isAgg118
  z127 := Tryz.sizeOf118
  v127 := Tryz.zeroValue118 }
def Tryz.lays156_ren : Go.Shelf.Ren := ⟨fun | 156 => 20 | 165 => 41 | 166 => 30 | 169 => 33 | 240 => 54 | 241 => 65 | 276 => 72 | 277 => 82 | n => n, fun | 31 => 40 | 9 => 9 | 3 => 3 | 4 => 4 | 0 => 0 | 20 => 20 | 72 => 71 | 76 => 74 | 70 => 69 | 37 => 22 | 75 => 29 | 127 => 118 | 164 => 89 | 5 => 5 | 80 => 76 | n => n, fun | n => n⟩
theorem Tryz.lays156 : Go.Proofs.Lays.n156 Tryz.prog Tryz.lays156_ren := {
  mixed := by kernel_rfl
  f156 := Tryz.func20.trans (congrArg some (by kernel_rfl))
  f165 := Tryz.func41.trans (congrArg some (by kernel_rfl))
  f166 := Tryz.func30.trans (congrArg some (by kernel_rfl))
  f169 := Tryz.func33.trans (congrArg some (by kernel_rfl))
  f240 := Tryz.func54.trans (congrArg some (by kernel_rfl))
  f241 := Tryz.func65.trans (congrArg some (by kernel_rfl))
  f276 := Tryz.func72.trans (congrArg some (by kernel_rfl))
  f277 := Tryz.func82.trans (congrArg some (by kernel_rfl))
  t0 := Tryz.underlying0
  a0 := Tryz.isAgg0
  z0 := Tryz.sizeOf0
  v0 := Tryz.zeroValue0
  t3 := Tryz.underlying3
  a3 := Tryz.isAgg3
  z3 := Tryz.sizeOf3
  v3 := Tryz.zeroValue3
  t4 := Tryz.underlying4
  a4 := Tryz.isAgg4
  z4 := Tryz.sizeOf4
  v4 := Tryz.zeroValue4
  t9 := Tryz.underlying9
  a9 := Tryz.isAgg9
  z9 := Tryz.sizeOf9
  v9 := Tryz.zeroValue9
  t20 := Tryz.underlying20
  a20 := Tryz.isAgg20
  z20 := Tryz.sizeOf20
  v20 := Tryz.zeroValue20
  t31 := Tryz.underlying40
  a31 := Tryz.isAgg40
  z31 := Tryz.sizeOf40
  v31 := Tryz.zeroValue40
  t37 := Tryz.underlying22
  a37 := Tryz.isAgg22
  z37 := Tryz.sizeOf22
  v37 := Tryz.zeroValue22
  t70 := Tryz.underlying69
  a70 := Tryz.isAgg69
  z70 := Tryz.sizeOf69
  v70 := Tryz.zeroValue69
  t72 := Tryz.underlying71
  a72 := Tryz.isAgg71
  z72 := Tryz.sizeOf71
  v72 := Tryz.zeroValue71
  t75 := Tryz.underlying29
  a75 := Tryz.isAgg29
  z75 := Tryz.sizeOf29
  v75 := Tryz.zeroValue29
  t76 := Tryz.underlying74
  a76 := Tryz.isAgg74
  z76 := Tryz.sizeOf74
  v76 := Tryz.zeroValue74
  t127 := Tryz.underlying118
  a127 := Tryz.isAgg118
  z127 := Tryz.sizeOf118
  v127 := Tryz.zeroValue118
  t164 := Tryz.underlying89
  a164 := Tryz.isAgg89
  z164 := Tryz.sizeOf89
  v164 := Tryz.zeroValue89 }
def Tryz.laysPu14_ren : Go.Shelf.Ren := ⟨fun | 14 => 78 | 16 => 88 | 17 => 89 | 19 => 92 | 20 => 93 | 21 => 94 | 22 => 95 | 23 => 96 | 24 => 97 | 25 => 105 | 27 => 73 | 26 => 106 | 28 => 84 | 29 => 91 | 30 => 101 | 31 => 102 | 32 => 103 | 33 => 104 | 35 => 109 | 34 => 108 | 36 => 110 | 37 => 111 | 38 => 112 | 39 => 113 | 40 => 114 | n => n, fun | 9 => 9 | 3 => 3 | 22 => 150 | 24 => 29 | 25 => 151 | 4 => 4 | 34 => 158 | 5 => 5 | 36 => 160 | 37 => 22 | 0 => 0 | 39 => 161 | 21 => 21 | 44 => 172 | 47 => 118 | 50 => 184 | 48 => 182 | 2 => 2 | 52 => 165 | 55 => 168 | 59 => 178 | 60 => 174 | 20 => 20 | 61 => 179 | 65 => 186 | 66 => 187 | 67 => 76 | n => n, fun | 0 => 2 | 1 => 3 | 2 => 4 | 3 => 5 | 4 => 6 | n => n⟩
theorem Tryz.laysPu14 : Go.Proofs.LaysPu.n14 Tryz.prog Tryz.laysPu14_ren := {
  mixed := by kernel_rfl
  f14 := Tryz.func78.trans (congrArg some (by kernel_rfl))
  f16 := Tryz.func88.trans (congrArg some (by kernel_rfl))
  f17 := Tryz.func89.trans (congrArg some (by kernel_rfl))
  f19 := Tryz.func92.trans (congrArg some (by kernel_rfl))
  f20 := Tryz.func93.trans (congrArg some (by kernel_rfl))
  f21 := Tryz.func94.trans (congrArg some (by kernel_rfl))
  f22 := Tryz.func95.trans (congrArg some (by kernel_rfl))
  f23 := Tryz.func96.trans (congrArg some (by kernel_rfl))
  f24 := Tryz.func97.trans (congrArg some (by kernel_rfl))
  f25 := Tryz.func105.trans (congrArg some (by kernel_rfl))
  f26 := Tryz.func106.trans (congrArg some (by kernel_rfl))
  f27 := Tryz.func73.trans (congrArg some (by kernel_rfl))
  f28 := Tryz.func84.trans (congrArg some (by kernel_rfl))
  f29 := Tryz.func91.trans (congrArg some (by kernel_rfl))
  f30 := Tryz.func101.trans (congrArg some (by kernel_rfl))
  f31 := Tryz.func102.trans (congrArg some (by kernel_rfl))
  f32 := Tryz.func103.trans (congrArg some (by kernel_rfl))
  f33 := Tryz.func104.trans (congrArg some (by kernel_rfl))
  f34 := Tryz.func108.trans (congrArg some (by kernel_rfl))
  f35 := Tryz.func109.trans (congrArg some (by kernel_rfl))
  f36 := Tryz.func110.trans (congrArg some (by kernel_rfl))
  f37 := Tryz.func111.trans (congrArg some (by kernel_rfl))
  f38 := Tryz.func112.trans (congrArg some (by kernel_rfl))
  f39 := Tryz.func113.trans (congrArg some (by kernel_rfl))
  f40 := Tryz.func114.trans (congrArg some (by kernel_rfl))
  t0 := Tryz.underlying0
  a0 := Tryz.isAgg0
  z0 := Tryz.sizeOf0
  v0 := Tryz.zeroValue0
  i0 := by kernel_rfl
  t2 := Tryz.underlying2
  a2 := Tryz.isAgg2
  z2 := Tryz.sizeOf2
  v2 := Tryz.zeroValue2
  i2 := by kernel_rfl
  t3 := Tryz.underlying3
  a3 := Tryz.isAgg3
  z3 := Tryz.sizeOf3
  v3 := Tryz.zeroValue3
  i3 := by kernel_rfl
  t4 := Tryz.underlying4
  a4 := Tryz.isAgg4
  z4 := Tryz.sizeOf4
  v4 := Tryz.zeroValue4
  i4 := by kernel_rfl
  t5 := Tryz.underlying5
  a5 := Tryz.isAgg5
  z5 := Tryz.sizeOf5
  v5 := Tryz.zeroValue5
  i5 := by kernel_rfl
  t9 := Tryz.underlying9
  a9 := Tryz.isAgg9
  z9 := Tryz.sizeOf9
  v9 := Tryz.zeroValue9
  i9 := by kernel_rfl
  t20 := Tryz.underlying20
  a20 := Tryz.isAgg20
  z20 := Tryz.sizeOf20
  v20 := Tryz.zeroValue20
  i20 := by kernel_rfl
  t21 := Tryz.underlying21
  a21 := Tryz.isAgg21
  z21 := Tryz.sizeOf21
  v21 := Tryz.zeroValue21
  i21 := by kernel_rfl
  t22 := Tryz.underlying150
  a22 := Tryz.isAgg150
  z22 := Tryz.sizeOf150
  v22 := Tryz.zeroValue150
  i22 := by kernel_rfl
  t24 := Tryz.underlying29
  a24 := Tryz.isAgg29
  z24 := Tryz.sizeOf29
  v24 := Tryz.zeroValue29
  i24 := by kernel_rfl
  t25 := Tryz.underlying151
  a25 := Tryz.isAgg151
  z25 := Tryz.sizeOf151
  v25 := Tryz.zeroValue151
  i25 := by kernel_rfl
  t34 := Tryz.underlying158
  a34 := Tryz.isAgg158
  z34 := Tryz.sizeOf158
  v34 := Tryz.zeroValue158
  i34 := by kernel_rfl
  c34 := by kernel_rfl
  t36 := Tryz.underlying160
  a36 := Tryz.isAgg160
  z36 := Tryz.sizeOf160
  v36 := Tryz.zeroValue160
  i36 := by kernel_rfl
  t37 := Tryz.underlying22
  a37 := Tryz.isAgg22
  z37 := Tryz.sizeOf22
  v37 := Tryz.zeroValue22
  i37 := by kernel_rfl
  t39 := Tryz.underlying161
  a39 := Tryz.isAgg161
  z39 := Tryz.sizeOf161
  v39 := Tryz.zeroValue161
  i39 := by kernel_rfl
  t44 := Tryz.underlying172
  a44 := Tryz.isAgg172
  z44 := Tryz.sizeOf172
  v44 := Tryz.zeroValue172
  i44 := by kernel_rfl
  t47 := Tryz.underlying118
  a47 := Tryz.isAgg118
  z47 := Tryz.sizeOf118
  v47 := Tryz.zeroValue118
  i47 := by kernel_rfl
  t48 := Tryz.underlying182
  a48 := Tryz.isAgg182
  z48 := Tryz.sizeOf182
  v48 := Tryz.zeroValue182
  i48 := by kernel_rfl
  t50 := Tryz.underlying184
  a50 := Tryz.isAgg184
  z50 := Tryz.sizeOf184
  v50 := Tryz.zeroValue184
  i50 := by kernel_rfl
  t52 := Tryz.underlying165
  a52 := Tryz.isAgg165
  z52 := Tryz.sizeOf165
  v52 := Tryz.zeroValue165
  i52 := by kernel_rfl
  t55 := Tryz.underlying168
  a55 := Tryz.isAgg168
  z55 := Tryz.sizeOf168
  v55 := Tryz.zeroValue168
  i55 := by kernel_rfl
  t59 := Tryz.underlying178
  a59 := Tryz.isAgg178
  z59 := Tryz.sizeOf178
  v59 := Tryz.zeroValue178
  i59 := by kernel_rfl
  t60 := Tryz.underlying174
  a60 := Tryz.isAgg174
  z60 := Tryz.sizeOf174
  v60 := Tryz.zeroValue174
  i60 := by kernel_rfl
  t61 := Tryz.underlying179
  a61 := Tryz.isAgg179
  z61 := Tryz.sizeOf179
  t65 := Tryz.underlying186
  a65 := Tryz.isAgg186
  z65 := Tryz.sizeOf186
  v65 := Tryz.zeroValue186
  i65 := by kernel_rfl
  t66 := Tryz.underlying187
  a66 := Tryz.isAgg187
  z66 := Tryz.sizeOf187
  v66 := Tryz.zeroValue187
  i66 := by kernel_rfl
  t67 := Tryz.underlying76
  a67 := Tryz.isAgg76
  z67 := Tryz.sizeOf76
  v67 := Tryz.zeroValue76
  i67 := by kernel_rfl
  g0 := by kernel_rfl
  m0 := by kernel_rfl
  g1 := by kernel_rfl
  m1 := by kernel_rfl
  g2 := by kernel_rfl
  m2 := by kernel_rfl
  g3 := by kernel_rfl
  m3 := by kernel_rfl
  g4 := by kernel_rfl
  m4 := by kernel_rfl }
def Tryz.lays143_ren : Go.Shelf.Ren := ⟨fun | 143 => 80 | 219 => 90 | 217 => 71 | 225 => 98 | 224 => 99 | 267 => 100 | 266 => 83 | 314 => 107 | n => n, fun | 9 => 9 | 3 => 3 | 4 => 4 | 5 => 5 | 46 => 160 | 146 => 175 | 51 => 174 | n => n, fun | 1 => 1 | n => n⟩
theorem Tryz.lays143 : Go.Proofs.Lays.n143 Tryz.prog Tryz.lays143_ren := {
  mixed := by kernel_rfl
  f143 := Tryz.func80.trans (congrArg some (by kernel_rfl))
  f217 := Tryz.func71.trans (congrArg some (by kernel_rfl))
  f219 := Tryz.func90.trans (congrArg some (by kernel_rfl))
  f224 := Tryz.func99.trans (congrArg some (by kernel_rfl))
  f225 := Tryz.func98.trans (congrArg some (by kernel_rfl))
  f266 := Tryz.func83.trans (congrArg some (by kernel_rfl))
  f267 := Tryz.func100.trans (congrArg some (by kernel_rfl))
  f314 := Tryz.func107.trans (congrArg some (by kernel_rfl))
  t3 := Tryz.underlying3
  a3 := Tryz.isAgg3
  z3 := Tryz.sizeOf3
  v3 := Tryz.zeroValue3
  t4 := Tryz.underlying4
  a4 := Tryz.isAgg4
  z4 := Tryz.sizeOf4
  v4 := Tryz.zeroValue4
  t5 := Tryz.underlying5
  a5 := Tryz.isAgg5
  z5 := Tryz.sizeOf5
  v5 := Tryz.zeroValue5
  t9 := Tryz.underlying9
  a9 := Tryz.isAgg9
  z9 := Tryz.sizeOf9
  v9 := Tryz.zeroValue9
  t46 := Tryz.underlying160
  a46 := Tryz.isAgg160
  z46 := Tryz.sizeOf160
  v46 := Tryz.zeroValue160
  t51 := Tryz.underlying174
  a51 := Tryz.isAgg174
  z51 := Tryz.sizeOf174
  v51 := Tryz.zeroValue174
  t146 := Tryz.underlying175
  a146 := Tryz.isAgg175
  z146 := Tryz.sizeOf175
  v146 := Tryz.zeroValue175
  g1 := by kernel_rfl }
def Tryz.lays145_ren : Go.Shelf.Ren := ⟨fun | 145 => 76 | 220 => 86 | 219 => 90 | 217 => 71 | 225 => 98 | 224 => 99 | 267 => 100 | 266 => 83 | 314 => 107 | n => n, fun | 9 => 9 | 4 => 4 | 59 => 148 | 3 => 3 | 5 => 5 | 46 => 160 | 146 => 175 | 51 => 174 | n => n, fun | 1 => 1 | n => n⟩
theorem Tryz.lays145 : Go.Proofs.Lays.n145 Tryz.prog Tryz.lays145_ren := {
  mixed := by kernel_rfl
  f145 := Tryz.func76.trans (congrArg some (by kernel_rfl))
  f217 := Tryz.func71.trans (congrArg some (by kernel_rfl))
  f219 := Tryz.func90.trans (congrArg some (by kernel_rfl))
  f220 := Tryz.func86.trans (congrArg some (by kernel_rfl))
  f224 := Tryz.func99.trans (congrArg some (by kernel_rfl))
  f225 := Tryz.func98.trans (congrArg some (by kernel_rfl))
  f266 := Tryz.func83.trans (congrArg some (by kernel_rfl))
  f267 := Tryz.func100.trans (congrArg some (by kernel_rfl))
  f314 := Tryz.func107.trans (congrArg some (by kernel_rfl))
  t3 := Tryz.underlying3
  a3 := Tryz.isAgg3
  z3 := Tryz.sizeOf3
  v3 := Tryz.zeroValue3
  t4 := Tryz.underlying4
  a4 := Tryz.isAgg4
  z4 := Tryz.sizeOf4
  v4 := Tryz.zeroValue4
  t5 := Tryz.underlying5
  a5 := Tryz.isAgg5
  z5 := Tryz.sizeOf5
  v5 := Tryz.zeroValue5
  t9 := Tryz.underlying9
  a9 := Tryz.isAgg9
  z9 := Tryz.sizeOf9
  v9 := Tryz.zeroValue9
  t46 := Tryz.underlying160
  a46 := Tryz.isAgg160
  z46 := Tryz.sizeOf160
  v46 := Tryz.zeroValue160
  t51 := Tryz.underlying174
  a51 := Tryz.isAgg174
  z51 := Tryz.sizeOf174
  v51 := Tryz.zeroValue174
  t59 := Tryz.underlying148
  a59 := Tryz.isAgg148
  z59 := Tryz.sizeOf148
  v59 := Tryz.zeroValue148
  t146 := Tryz.underlying175
  a146 := Tryz.isAgg175
  z146 := Tryz.sizeOf175
  v146 := Tryz.zeroValue175
  g1 := by kernel_rfl }
def Tryz.lays99_ren : Go.Shelf.Ren := ⟨fun | 99 => 57 | 206 => 75 | n => n, fun | 9 => 9 | 4 => 4 | 3 => 3 | n => n, fun | n => n⟩
theorem Tryz.lays99 : Go.Proofs.Lays.n99 Tryz.prog Tryz.lays99_ren := {
  mixed := by kernel_rfl
  f99 := Tryz.func57.trans (congrArg some (by kernel_rfl))
  f206 := Tryz.func75.trans (congrArg some (by kernel_rfl))
  t3 := Tryz.underlying3
  a3 := Tryz.isAgg3
  z3 := Tryz.sizeOf3
  v3 := Tryz.zeroValue3
  t4 := Tryz.underlying4
  a4 := Tryz.isAgg4
  z4 := Tryz.sizeOf4
  v4 := Tryz.zeroValue4
  t9 := Tryz.underlying9
  a9 := Tryz.isAgg9
  z9 := Tryz.sizeOf9
  v9 := Tryz.zeroValue9 }
def Tryz.lays100_ren : Go.Shelf.Ren := ⟨fun | 100 => 74 | 207 => 85 | n => n, fun | 9 => 9 | 4 => 4 | 3 => 3 | n => n, fun | n => n⟩
theorem Tryz.lays100 : Go.Proofs.Lays.n100 Tryz.prog Tryz.lays100_ren := {
  mixed := by kernel_rfl
  f100 := Tryz.func74.trans (congrArg some (by kernel_rfl))
  f207 := Tryz.func85.trans (congrArg some (by kernel_rfl))
  t3 := Tryz.underlying3
  a3 := Tryz.isAgg3
  z3 := Tryz.sizeOf3
  v3 := Tryz.zeroValue3
  t4 := Tryz.underlying4
  a4 := Tryz.isAgg4
  z4 := Tryz.sizeOf4
  v4 := Tryz.zeroValue4
  t9 := Tryz.underlying9
  a9 := Tryz.isAgg9
  z9 := Tryz.sizeOf9
  v9 := Tryz.zeroValue9 }
def Tryz.lays101_ren : Go.Shelf.Ren := ⟨fun | 101 => 77 | 208 => 87 | 206 => 75 | n => n, fun | 9 => 9 | 4 => 4 | 3 => 3 | n => n, fun | n => n⟩
theorem Tryz.lays101 : Go.Proofs.Lays.n101 Tryz.prog Tryz.lays101_ren := {
  mixed := by kernel_rfl
  f101 := Tryz.func77.trans (congrArg some (by kernel_rfl))
  f206 := Tryz.func75.trans (congrArg some (by kernel_rfl))
  f208 := Tryz.func87.trans (congrArg some (by kernel_rfl))
  t3 := Tryz.underlying3
  a3 := Tryz.isAgg3
  z3 := Tryz.sizeOf3
  v3 := Tryz.zeroValue3
  t4 := Tryz.underlying4
  a4 := Tryz.isAgg4
  z4 := Tryz.sizeOf4
  v4 := Tryz.zeroValue4
  t9 := Tryz.underlying9
  a9 := Tryz.isAgg9
  z9 := Tryz.sizeOf9
  v9 := Tryz.zeroValue9 }
def Tryz.lays102_ren : Go.Shelf.Ren := ⟨fun | 102 => 59 | 209 => 79 | 207 => 85 | n => n, fun | 9 => 9 | 4 => 4 | 3 => 3 | n => n, fun | n => n⟩
theorem Tryz.lays102 : Go.Proofs.Lays.n102 Tryz.prog Tryz.lays102_ren := {
  mixed := by kernel_rfl
  f102 := Tryz.func59.trans (congrArg some (by kernel_rfl))
  f207 := Tryz.func85.trans (congrArg some (by kernel_rfl))
  f209 := Tryz.func79.trans (congrArg some (by kernel_rfl))
  t3 := Tryz.underlying3
  a3 := Tryz.isAgg3
  z3 := Tryz.sizeOf3
  v3 := Tryz.zeroValue3
  t4 := Tryz.underlying4
  a4 := Tryz.isAgg4
  z4 := Tryz.sizeOf4
  v4 := Tryz.zeroValue4
  t9 := Tryz.underlying9
  a9 := Tryz.isAgg9
  z9 := Tryz.sizeOf9
  v9 := Tryz.zeroValue9 }
theorem Tryz.Builder_Extra_169 : Builder.Extra Tryz.prog Tryz.lays169_ren := {
  sizeBuilder := by kernel_rfl
  liesBuilder := by kernel_rfl
  t5 := Tryz.underlying5
  a5 := Tryz.isAgg5
  z5 := Tryz.sizeOf5
  v5 := Tryz.zeroValue5
  infoByte := by kernel_rfl
  cellsByte := by kernel_rfl
  sizeByte := by kernel_rfl
  neB5 := by decide }
theorem Tryz.Builder_Extra_156 : Builder.Extra Tryz.prog Tryz.lays156_ren := {
  sizeBuilder := by kernel_rfl
  liesBuilder := by kernel_rfl
  t5 := Tryz.underlying5
  a5 := Tryz.isAgg5
  z5 := Tryz.sizeOf5
  v5 := Tryz.zeroValue5
  infoByte := by kernel_rfl
  cellsByte := by kernel_rfl
  sizeByte := by kernel_rfl
  neB5 := by decide }
end Go.Proofs
namespace Go.Proofs.YtmpjapcijjjlbaaGreatDoor
open Go.RowKit
set_option linter.unusedVariables false
set_option linter.unusedSimpArgs false
theorem str_add (x y : Str) : (⟨x.toArray⟩ : ByteArray) ++ ⟨y.toArray⟩ = ⟨(x ++ y).toArray⟩ := by
  apply ByteArray.ext
  simp
def cA (L : List Ed) : Nat := (L.filter (fun e => e.1 != 2)).length
def cB (L : List Ed) : Nat := (L.filter (fun e => e.1 != 1)).length
theorem cA_snoc (L : List Ed) (e : Ed) : cA (L ++ [e]) = cA L + if e.1 = 2 then 0 else 1 := by
  unfold cA
  rw [List.filter_append, List.length_append]
  by_cases h : e.1 = 2 <;> simp [h]
theorem cB_snoc (L : List Ed) (e : Ed) : cB (L ++ [e]) = cB L + if e.1 = 1 then 0 else 1 := by
  unfold cB
  rw [List.filter_append, List.length_append]
  by_cases h : e.1 = 1 <;> simp [h]
theorem cA_le (L : List Ed) : cA L ≤ L.length := List.length_filter_le _ _
theorem cB_le (L : List Ed) : cB L ≤ L.length := List.length_filter_le _ _
def noE : Str := [10, 92, 32, 78, 111, 32, 110, 101, 119, 108, 105, 110, 101, 32, 97, 116, 32, 101, 110, 100, 32, 111, 102, 32, 102, 105, 108, 101, 10]
def sgn (k : Nat) : UInt8 := if k = 1 then 45 else if k = 2 then 43 else 32
def lineT (e : Ed) : Str := (sgn e.1 :: e.2) ++ if e.2.getLast? = some 10 then [] else noE
def plc (a n : Nat) : Str := Lib.decDigits (a + min n 1) ++ (44 :: Lib.decDigits n)
def headT (a n b m : Nat) : Str := ([64, 64, 32, 45] ++ plc a n) ++ ([32, 43] ++ (plc b m ++ [32, 64, 64, 10]))
theorem start_any (a n : Nat) (ha : a ≤ 2000000000) (w : World) : Calls Tryz.prog 61 #[.int .i64 (a : Int), .int .i64 (n : Int)] w fun e w' => e = .returned (.int .i64 ((a + min n 1 : Nat) : Int)) ∧ w' = w := by
  obtain ⟨m, HM⟩ : ∃ m, Hid (min n 1 = m) := ⟨_, rfl⟩
  have hmin : min (n : Int) 1 = (m : Int) := by rw [← HM.out]; omega
  have hm : m ≤ 1 := by rw [← HM.out]; omega
  rw [HM.out]
  go_enter Tryz.func61, Tryz.ntmps61
  go_wp2
  go_ret
  exact ⟨ret_int (by omega), rfl⟩
def Tab (w : World) : Prop := Lib.TabIs Tryz.prog w "internal/strconv.uint64pow10" .u64 Lib.pow10Tab
theorem itoa_nat (n : Nat) : Lib.itoa (n : Int) = Lib.decDigits n := by
  unfold Lib.itoa
  rw [if_neg (by omega)]
  simp
theorem itoa_any (n : Nat) (hn : n ≤ 2000000000) (w : World) (ht : Tab w) : Calls Tryz.prog 73 #[.int .i64 (n : Int)] w fun e w' => e = .returned (.string ⟨(Lib.decDigits n).toArray⟩) ∧ Below w.heap.size w w' := by
  refine (Any.strconv_Itoa Tryz.laysM171 n (by omega) (by omega) w ht).mono ?_
  rintro e w' ⟨rfl, k, os, rfl⟩
  rw [itoa_nat]
  refine ⟨rfl, rfl, rfl, rfl, by show _ ≤ (w.heap ++ os).size; simp, fun k hk => ?_⟩
  show (w.heap ++ os)[k]? = _
  rw [Array.getElem?_append_left hk]
end Go.Proofs.YtmpjapcijjjlbaaGreatDoor
namespace Go.Proofs.YtmpjapcijjjlbaaGreatDoor
set_option linter.unusedVariables false
set_option linter.unusedSimpArgs false
def hdS : Str := [64, 64, 32, 45]
def noM : Str := [92, 32, 78, 111, 32, 110, 101, 119, 108, 105, 110, 101, 32, 97, 116, 32, 101, 110, 100, 32, 111, 102, 32, 102, 105, 108, 101, 10]
theorem noE_eq : noE = [10] ++ noM := rfl
def puV (d : Str) : Nat := match Lib.parseUintB 32 d with
  | .ok u => u
  | .«syntax» => 0
  | .range => 4294967295
def rdA (x : Str) : Nat := puV (Lib.cut (Lib.trimPrefix x hdS) [44]).1
def kdO (c : UInt8) : Nat := if c = 45 then 1 else if c = 43 then 2 else 0
def rdE (x : Str) : Ed := (kdO (x.headD 0), x.drop 1)
def trE (x : Str) : Str := Lib.trimSuffix x [10]
abbrev Rh := Nat × List Ed
def rdS (st : List Rh) (x : Str) : List Rh :=
  if Lib.hasPrefix x hdS = true then st ++ [(rdA x, [])] else
  match st.getLast? with
  | none => st
  | some h => if x = noM ∧ h.2 ≠ [] then st.dropLast ++ [(h.1, h.2.dropLast ++ [((h.2.getLastD (0, [])).1, trE (h.2.getLastD (0, [])).2)])] else st.dropLast ++ [(h.1, h.2 ++ [rdE x])]
def rdH (s : Str) : List Rh := (lns s).foldl rdS []
theorem rdS_head {st : List Rh} {x : Str} (h : Lib.hasPrefix x hdS = true) : rdS st x = st ++ [(rdA x, [])] := by rw [rdS, if_pos h]
theorem rdS_none {x : Str} (h : ¬ Lib.hasPrefix x hdS = true) : rdS [] x = [] := by rw [rdS, if_neg h]; rfl
theorem rdS_end {st : List Rh} {x : Str} {a : Nat} {es : List Ed} {e : Ed} (h : ¬ Lib.hasPrefix x hdS = true) (hx : x = noM) : rdS (st ++ [(a, es ++ [e])]) x = st ++ [(a, es ++ [(e.1, trE e.2)])] := by
  rw [rdS, if_neg h]
  simp [hx, List.getLastD_eq_getLast?]
theorem rdS_ed {st : List Rh} {x : Str} {a : Nat} {es : List Ed} (h : ¬ Lib.hasPrefix x hdS = true) (hx : ¬ (x = noM ∧ es ≠ [])) : rdS (st ++ [(a, es)]) x = st ++ [(a, es ++ [rdE x])] := by
  rw [rdS, if_neg h]
  simp only [List.getLast?_append, List.getLast?_singleton, Option.some_or, List.dropLast_concat]
  rw [if_neg hx]
abbrev Hk := Nat × Nat × List Ed
def hkW (h : Hk) : Str := headT h.1 (cA h.2.2) h.2.1 (cB h.2.2) ++ h.2.2.flatMap lineT
def wHs (l : List Hk) : Str := l.flatMap hkW
structure WfE (e : Ed) : Prop where
  k : e.1 ≤ 2
  ne : e.2 ≠ []
  one : (10 : UInt8) ∉ e.2.dropLast
theorem lns_line (p r : Str) (h : (10 : UInt8) ∉ p) : lns ((p ++ [10]) ++ r) = (p ++ [10]) :: lns r := by
  rw [List.append_assoc]
  exact lns_nl p r h
theorem sgn_cases (k : Nat) (h : k ≤ 2) : k = 0 ∨ k = 1 ∨ k = 2 := by omega
theorem sgn_not (k : Nat) (h : k ≤ 2) (r : Str) : ¬ Lib.hasPrefix (sgn k :: r) hdS = true ∧ sgn k :: r ≠ noM ∧ kdO (sgn k) = k ∧ sgn k ≠ 10 := by
  rcases sgn_cases k h with rfl | rfl | rfl
  · exact ⟨by simp [Lib.hasPrefix, hdS, sgn], by simp [noM, sgn], rfl, by decide⟩
  · exact ⟨by simp [Lib.hasPrefix, hdS, sgn], by simp [noM, sgn], rfl, by decide⟩
  · exact ⟨by simp [Lib.hasPrefix, hdS, sgn], by simp [noM, sgn], rfl, by decide⟩
theorem trE_end (x : Str) : trE (x ++ [10]) = x := by
  unfold trE Lib.trimSuffix Lib.hasSuffix
  rw [if_pos (by simp)]
  simp
theorem noM_not : ¬ Lib.hasPrefix noM hdS = true := by decide
theorem fold_line {e : Ed} (he : WfE e) (r : Str) (st : List Rh) (a : Nat) (es : List Ed) : (lns (lineT e ++ r)).foldl rdS (st ++ [(a, es)]) = (lns r).foldl rdS (st ++ [(a, es ++ [e])]) := by
  obtain ⟨k, x⟩ := e
  obtain ⟨hk, hne, h10⟩ := he
  simp only at hk hne h10
  by_cases hl : x.getLast? = some 10
  · have hx : x = x.dropLast ++ [10] := by
      have h1 := (List.dropLast_concat_getLast hne).symm
      rw [List.getLast?_eq_some_getLast hne, Option.some.injEq] at hl
      rw [hl] at h1
      exact h1
    obtain ⟨n1, n2, n3, n4⟩ := sgn_not k hk (x.dropLast ++ [10])
    have e1 : lineT (k, x) = (sgn k :: x.dropLast) ++ [10] := by
      unfold lineT
      simp only [hl, if_true, List.append_nil]
      conv => lhs; rw [hx]
      rfl
    rw [e1, lns_line _ _ (by
      intro hm
      rcases List.mem_cons.1 hm with h | h
      · exact n4 h.symm
      · exact h10 h), List.foldl_cons, List.cons_append, rdS_ed n1 (fun h => n2 h.1)]
    congr 5
    unfold rdE
    simp only [List.headD_cons, List.drop_succ_cons, List.drop_zero, n3]
    rw [← hx]
  · have h10x : (10 : UInt8) ∉ x := by
      intro hm
      have h1 := (List.dropLast_concat_getLast hne).symm
      rw [h1] at hm
      rcases List.mem_append.1 hm with h | h
      · exact h10 h
      · rw [List.getLast?_eq_some_getLast hne] at hl
        exact hl (by rw [List.mem_singleton.1 h])
    obtain ⟨n1, n2, n3, n4⟩ := sgn_not k hk (x ++ [10])
    have e1 : lineT (k, x) ++ r = ((sgn k :: x) ++ [10]) ++ (noM ++ r) := by
      unfold lineT
      simp only [hl, if_false, noE_eq]
      simp
    have e2 : noM ++ r = (noM.dropLast ++ [10]) ++ r := rfl
    rw [e1, lns_line _ _ (by
      intro hm
      rcases List.mem_cons.1 hm with h | h
      · exact n4 h.symm
      · exact h10x h), List.foldl_cons, List.cons_append, rdS_ed n1 (fun h => n2 h.1), e2, lns_line _ _ (by decide), List.foldl_cons]
    have e3 : noM.dropLast ++ [10] = noM := rfl
    rw [e3, rdS_end noM_not rfl]
    congr 6
    unfold rdE
    simp only [List.headD_cons, List.drop_succ_cons, List.drop_zero, n3, trE_end]
theorem fold_lines : ∀ (L : List Ed) (r : Str) (st : List Rh) (a : Nat) (es : List Ed), (∀ e ∈ L, WfE e) → (lns (L.flatMap lineT ++ r)).foldl rdS (st ++ [(a, es)]) = (lns r).foldl rdS (st ++ [(a, es ++ L)])
  | [], r, st, a, es, _ => by simp
  | e :: L, r, st, a, es, h => by
    rw [List.flatMap_cons, List.append_assoc, fold_line (h e (by simp)), fold_lines L r st a (es ++ [e]) (fun x hx => h x (by simp [hx]))]
    simp
theorem dec_dig (n : Nat) : ∀ c ∈ Lib.decDigits n, 48 ≤ c.toNat ∧ c.toNat ≤ 57 := by
  induction n using Nat.strongRecOn with
  | _ n ih =>
    intro c hc
    rw [Lib.decDigits] at hc
    split at hc
    · rename_i h
      rw [List.mem_singleton.1 hc]
      simp
      omega
    · rename_i h
      rcases List.mem_append.1 hc with hc | hc
      · exact ih (n / 10) (by omega) c hc
      · rw [List.mem_singleton.1 hc]
        simp
        omega
theorem dec_no (n : Nat) (c : UInt8) (h : c.toNat < 48) : c ∉ Lib.decDigits n := fun hm => by
  have := (dec_dig n c hm).1
  omega
theorem dec_ne (n : Nat) : Lib.decDigits n ≠ [] := by
  rw [Lib.decDigits]
  split <;> simp
theorem parse_snoc (M : Nat) (c : UInt8) : ∀ (l : List UInt8) (acc : Nat), Lib.parseUintM M acc (l ++ [c]) = match Lib.parseUintM M acc l with
    | .ok u => Lib.parseUintM M u [c]
    | .«syntax» => .«syntax»
    | .range => .range
  | [], acc => by simp [Lib.parseUintM]
  | x :: l, acc => by
    rw [List.cons_append, Lib.parseUintM, Lib.parseUintM]
    split
    · split
      · rfl
      · split
        · rfl
        · exact parse_snoc M c l _
    · rfl
theorem parse_dec (M : Nat) (hM : M < 1844674407370955162) (n : Nat) : n ≤ M → Lib.parseUintM M 0 (Lib.decDigits n) = .ok n := by
  induction n using Nat.strongRecOn with
  | _ n ih =>
    intro hn
    rw [Lib.decDigits]
    split
    · rename_i h
      have hc : (UInt8.ofNat (48 + n)).toNat = 48 + n := by simp; omega
      rw [Lib.parseUintM, hc, if_pos (by omega), if_neg (by omega), if_neg (by omega), Lib.parseUintM]
      congr 1
      omega
    · rename_i h
      have hc : (UInt8.ofNat (48 + n % 10)).toNat = 48 + n % 10 := by simp; omega
      rw [parse_snoc, ih (n / 10) (by omega) (by omega)]
      simp only
      rw [Lib.parseUintM, hc, if_pos (by omega), if_neg (by omega), if_neg (by omega), Lib.parseUintM]
      congr 1
      omega
theorem puV_dec (n : Nat) (h : n < 4294967296) : puV (Lib.decDigits n) = n := by
  unfold puV Lib.parseUintB
  rw [if_neg (dec_ne n), parse_dec _ (by decide) n (by omega)]
theorem cut_at (a b sep : List UInt8) (h1 : Lib.occAt (a ++ (sep ++ b)) sep a.length = true) (h2 : ∀ j, j < a.length → Lib.occAt (a ++ (sep ++ b)) sep j = false) : Lib.cut (a ++ (sep ++ b)) sep = (a, b, true) := by
  have hi : Lib.index (a ++ (sep ++ b)) sep = (a.length : Nat) := Lib.index_first (by simp) h1 h2
  unfold Lib.cut
  rw [hi, if_pos (by omega)]
  simp
theorem occ_here (a b sep : List UInt8) : Lib.occAt (a ++ (sep ++ b)) sep a.length = true := by
  simp [Lib.occAt]
theorem occ_not (s sep : List UInt8) (j k : Nat) (c : UInt8) (hc : sep[k]? = some c) (hn : s[j + k]? ≠ some c) : Lib.occAt s sep j = false := by
  cases h : Lib.occAt s sep j with
  | false => rfl
  | true =>
    refine absurd ?_ hn
    unfold Lib.occAt at h
    obtain ⟨t, ht⟩ := List.isPrefixOf_iff_prefix.1 h
    obtain ⟨hk, _⟩ := List.getElem?_eq_some_iff.1 hc
    rw [← List.getElem?_drop, ← ht, List.getElem?_append_left hk]
    exact hc
theorem cut_one (a b : List UInt8) (c : UInt8) (h : c ∉ a) : Lib.cut (a ++ c :: b) [c] = (a, b, true) := by
  refine cut_at a b [c] (occ_here a b [c]) (fun j hj => occ_not _ _ j 0 c rfl ?_)
  rw [Nat.add_zero, List.getElem?_append_left hj]
  exact fun e => h (List.mem_of_getElem? e)
theorem plc_no (a n : Nat) : (10 : UInt8) ∉ plc a n := by
  unfold plc
  intro h
  rcases List.mem_append.1 h with h | h
  · exact dec_no _ 10 (by decide) h
  · rcases List.mem_cons.1 h with h | h
    · cases h
    · exact dec_no _ 10 (by decide) h
theorem fold_head (a n b m : Nat) (ha : a + 1 < 4294967296) (r : Str) (st : List Rh) : (lns (headT a n b m ++ r)).foldl rdS st = (lns r).foldl rdS (st ++ [(a + min n 1, [])]) := by
  have e1 : headT a n b m ++ r = ((hdS ++ plc a n ++ [32, 43] ++ plc b m ++ [32, 64, 64]) ++ [10]) ++ r := by
    unfold headT hdS
    simp
  have e2 : (hdS ++ plc a n ++ [32, 43] ++ plc b m ++ [32, 64, 64]) ++ [10] = hdS ++ (Lib.decDigits (a + min n 1) ++ 44 :: (Lib.decDigits n ++ ([32, 43] ++ (plc b m ++ [32, 64, 64, 10])))) := by
    unfold plc
    simp
  have hp : Lib.hasPrefix (hdS ++ (Lib.decDigits (a + min n 1) ++ 44 :: (Lib.decDigits n ++ ([32, 43] ++ (plc b m ++ [32, 64, 64, 10]))))) hdS = true := by
    unfold Lib.hasPrefix
    exact List.isPrefixOf_iff_prefix.2 (List.prefix_append _ _)
  rw [e1, lns_line _ _ (by
    intro h
    simp only [List.mem_append] at h
    rcases h with (((h | h) | h) | h) | h
    · exact absurd h (by decide)
    · exact plc_no _ _ h
    · exact absurd h (by decide)
    · exact plc_no _ _ h
    · exact absurd h (by decide)), List.foldl_cons, e2, rdS_head hp]
  congr 4
  unfold rdA Lib.trimPrefix
  rw [if_pos hp, List.drop_left, cut_one _ _ _ (dec_no _ 44 (by decide)), puV_dec _ (by omega)]
theorem rd_back : ∀ (hs : List Hk) (st : List Rh), (∀ h ∈ hs, h.1 + 1 < 4294967296 ∧ ∀ e ∈ h.2.2, WfE e) → (lns (wHs hs)).foldl rdS st = st ++ hs.map (fun h => (h.1 + min (cA h.2.2) 1, h.2.2))
  | [], st, _ => by simp [wHs, lns]
  | h :: hs, st, hg => by
    have h1 := hg h (by simp)
    have ih := rd_back hs (st ++ [(h.1 + min (cA h.2.2) 1, h.2.2)]) (fun x hx => hg x (by simp [hx]))
    have e : wHs (h :: hs) = headT h.1 (cA h.2.2) h.2.1 (cB h.2.2) ++ (h.2.2.flatMap lineT ++ wHs hs) := by
      unfold wHs hkW
      rw [List.flatMap_cons, List.append_assoc]
    rw [e, fold_head _ _ _ _ h1.1, fold_lines _ _ _ _ _ h1.2, List.nil_append, ih]
    simp
end Go.Proofs.YtmpjapcijjjlbaaGreatDoor
