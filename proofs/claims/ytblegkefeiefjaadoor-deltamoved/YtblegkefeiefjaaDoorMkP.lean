/- THE PLAIN MATHEMATICS OF 'Make': what it writes, and that 'Apply' makes the target of it. -/
import Derived.Test.YtblegkefeiefjaaDoorPlain
import Derived.Test.YtblegkefeiefjaaDoorSam
namespace Go.Proofs.YtblegkefeiefjaaDoor.Plain
set_option linter.unusedVariables false

/-- 4.1: a size, as it is written. -/
def wsz : Nat → Nat → List Int
  | 0, n => [(n : Int)]
  | f + 1, n => if n < 128 then [(n : Int)] else ((n % 128 + 128 : Nat) : Int) :: wsz f (n / 128)
def szw (n : Nat) : List Int := wsz 5 n
theorem wsz_len : ∀ (f n : Nat), n < 2 ^ (7 * f + 7) → (wsz f n).length ≤ f + 1
  | 0, n, _ => by simp [wsz]
  | f + 1, n, h => by
    rw [wsz]
    split
    · simp
    · rw [List.length_cons]
      have : n / 128 < 2 ^ (7 * f + 7) := by
        rw [Nat.div_lt_iff_lt_mul (by omega)]
        rw [show 7 * (f + 1) + 7 = (7 * f + 7) + 7 by omega, Nat.pow_add] at h
        exact h
      have := wsz_len f (n / 128) this
      omega
theorem szGo_wsz : ∀ (f i n a : Nat) (rest : List Int), n < 2 ^ (7 * f + 7) → (0 < i → 0 < n) → szGo (f + 1) i a (wsz f n ++ rest) = some (a + n * 2 ^ (7 * i), rest)
  | 0, i, n, a, rest, h, h0 => by
    have hn : n < 128 := h
    rw [wsz, List.singleton_append, szGo, if_pos (by omega), if_pos (by omega)]
    rw [show ((n : Int) % 128).toNat = n by omega]
  | f + 1, i, n, a, rest, h, h0 => by
    rw [wsz]
    by_cases hn : n < 128
    · rw [if_pos hn, List.singleton_append, szGo, if_pos (by omega), if_pos (by omega)]
      rw [show ((n : Int) % 128).toNat = n by omega]
    · rw [if_neg hn, List.cons_append, szGo, if_neg (by omega)]
      have h1 : n / 128 < 2 ^ (7 * f + 7) := by
        rw [Nat.div_lt_iff_lt_mul (by omega)]
        rw [show 7 * (f + 1) + 7 = (7 * f + 7) + 7 by omega, Nat.pow_add] at h
        exact h
      rw [szGo_wsz f (i + 1) (n / 128) _ rest h1 (by omega)]
      rw [show (((n % 128 + 128 : Nat) : Int) % 128).toNat = n % 128 by omega]
      congr 2
      rw [show 7 * (i + 1) = 7 + 7 * i by omega, Nat.pow_add, Nat.add_assoc, ← Nat.mul_assoc, ← Nat.add_mul]
      congr 2
      omega
theorem wsz_succ (f n : Nat) : wsz (f + 1) n = if n < 128 then [(n : Int)] else ((n % 128 + 128 : Nat) : Int) :: wsz f (n / 128) := rfl
theorem wsz_five {n : Nat} (h : n < 2 ^ 35) : wsz 5 n = wsz 4 n := by
  have key : ∀ (f n : Nat), n < 2 ^ (7 * f + 7) → wsz (f + 1) n = wsz f n := by
    intro f
    induction f with
    | zero => intro n h; rw [wsz_succ, if_pos h]; rfl
    | succ f ih =>
      intro n h
      rw [wsz_succ (f + 1) n, wsz_succ f n]
      split
      · rfl
      · rw [ih (n / 128)]
        rw [Nat.div_lt_iff_lt_mul (by omega)]
        rw [show 7 * (f + 1) + 7 = (7 * f + 7) + 7 by omega, Nat.pow_add] at h
        exact h
  exact key 4 n h
theorem sz_szw {n : Nat} (h : n < 34359738368) (rest : List Int) : sz (szw n ++ rest) = some (n, rest) := by
  unfold sz szw
  rw [wsz_five h, szGo_wsz 4 0 n 0 rest h (by omega)]
  simp
theorem wsz_pos (f n : Nat) : 0 < (wsz f n).length := by
  cases f with
  | zero => simp [wsz]
  | succ f => rw [wsz]; split <;> simp

/-- A byte of a number. -/
def byt (place i : Nat) : Nat := place / 2 ^ (8 * i) % 256
def msk (place : Nat) : Nat → Nat
  | 0 => 0
  | i + 1 => msk place i + (if byt place i = 0 then 0 else 2 ^ i)
def byl (place : Nat) : Nat → List Int
  | 0 => []
  | i + 1 => byl place i ++ (if byt place i = 0 then [] else [(byt place i : Int)])
/-- 4.2: a copy, as it is written, after so many bytes. -/
def cpyI (place i : Nat) : List Int := ((128 + msk place i : Nat) : Int) :: byl place i
def cpy (at_ len : Nat) : List Int := cpyI (at_ + len * 4294967296) 7
theorem msk_lt (place : Nat) : ∀ i, msk place i < 2 ^ i
  | 0 => by simp [msk]
  | i + 1 => by
    have := msk_lt place i
    rw [msk, Nat.pow_succ]
    split <;> omega
theorem byl_len (place : Nat) : ∀ i, (byl place i).length ≤ i
  | 0 => by simp [byl]
  | i + 1 => by
    have := byl_len place i
    rw [byl, List.length_append]
    split <;> simp <;> omega
def fl (B : Nat → Nat) : Nat → Nat → List Int
  | _, 0 => []
  | k, c + 1 => (if B k = 0 then [] else [(B k : Int)]) ++ fl B (k + 1) c
def vl (B : Nat → Nat) : Nat → Nat → Nat → Nat
  | _, _, 0 => 0
  | k, j, c + 1 => B k * 2 ^ (8 * j) + vl B (k + 1) (j + 1) c
theorem fl_add (B : Nat → Nat) : ∀ (c k d : Nat), fl B k (c + d) = fl B k c ++ fl B (k + c) d
  | 0, k, d => by simp [fl]
  | c + 1, k, d => by
    rw [show c + 1 + d = (c + d) + 1 by omega, fl, fl, fl_add B c (k + 1) d, List.append_assoc, show k + 1 + c = k + (c + 1) by omega]
theorem prt_fl (B : Nat → Nat) (op : Nat) : ∀ (c k j n : Nat) (rest : List Int), (∀ i, i < c → op / 2 ^ (k + i) % 2 = if B (k + i) = 0 then 0 else 1) → prt c op k j n (fl B k c ++ rest) = some (n + vl B k j c, rest)
  | 0, k, j, n, rest, _ => by simp [prt, fl, vl]
  | c + 1, k, j, n, rest, h => by
    have h0 := h 0 (by omega)
    rw [Nat.add_zero] at h0
    have ih := fun n => prt_fl B op c (k + 1) (j + 1) n rest (fun i hi => by have := h (i + 1) (by omega); rwa [show k + (i + 1) = k + 1 + i by omega] at this)
    rw [prt, fl, vl]
    by_cases hb : B k = 0
    · rw [if_pos hb] at h0
      rw [if_pos h0, if_pos hb, List.nil_append, ih, hb]
      simp
    · rw [if_neg hb] at h0
      rw [if_neg (by omega), if_neg hb, if_neg (by simp)]
      show prt c op (k + 1) (j + 1) (n + ((B k : Int)).toNat * 2 ^ (8 * j)) (fl B (k + 1) c ++ rest) = _
      rw [Int.toNat_natCast, ih, Nat.add_assoc]
theorem byl_fl (place : Nat) : byl place 7 = fl (byt place) 0 7 := by
  simp only [byl, fl, List.append_assoc, List.nil_append, List.append_nil]
theorem msk_bits (place k : Nat) (hk : k < 7) : (128 + msk place 7) / 2 ^ k % 2 = if byt place k = 0 then 0 else 1 := by
  have e : ∀ i, ∃ z, (if byt place i = 0 then 0 else 2 ^ i) = z * 2 ^ i ∧ z ≤ 1 ∧ (if byt place i = 0 then 0 else 1) = z := by
    intro i
    by_cases h : byt place i = 0
    · exact ⟨0, by simp [h], by omega, by simp [h]⟩
    · exact ⟨1, by simp [h], by omega, by simp [h]⟩
  obtain ⟨z0, a0, b0, c0⟩ := e 0
  obtain ⟨z1, a1, b1, c1⟩ := e 1
  obtain ⟨z2, a2, b2, c2⟩ := e 2
  obtain ⟨z3, a3, b3, c3⟩ := e 3
  obtain ⟨z4, a4, b4, c4⟩ := e 4
  obtain ⟨z5, a5, b5, c5⟩ := e 5
  obtain ⟨z6, a6, b6, c6⟩ := e 6
  simp only [msk]
  rw [a0, a1, a2, a3, a4, a5, a6]
  have hc : k = 0 ∨ k = 1 ∨ k = 2 ∨ k = 3 ∨ k = 4 ∨ k = 5 ∨ k = 6 := by omega
  rcases hc with rfl | rfl | rfl | rfl | rfl | rfl | rfl
  · rw [c0]; omega
  · rw [c1]; omega
  · rw [c2]; omega
  · rw [c3]; omega
  · rw [c4]; omega
  · rw [c5]; omega
  · rw [c6]; omega
theorem low4 (place a len : Nat) (h : a + len * 4294967296 = place) (ha : a < 16777216) : 0 + vl (byt place) 0 0 4 = a := by
  simp only [vl, byt]
  simp only [Nat.zero_add, Nat.mul_zero, Nat.pow_zero, Nat.div_one, Nat.reduceMul, Nat.reduceAdd, Nat.reducePow, Nat.mul_one, Nat.add_zero]
  have e1 : place % 256 = a % 256 := by omega
  have e2 : place / 256 % 256 = a / 256 % 256 := by omega
  have e3 : place / 65536 % 256 = a / 65536 % 256 := by omega
  have e4 : place / 16777216 % 256 = 0 := by omega
  rw [e1, e2, e3, e4]
  omega
theorem high3 (place a len : Nat) (h : a + len * 4294967296 = place) (ha : a < 16777216) (hl : len < 16777216) : 0 + vl (byt place) 4 0 3 = len := by
  have e0 : place / 4294967296 = len := by omega
  have e1 : place / 1099511627776 = len / 256 := by rw [show (1099511627776 : Nat) = 4294967296 * 256 by omega, ← Nat.div_div_eq_div_mul, e0]
  have e2 : place / 281474976710656 = len / 65536 := by rw [show (281474976710656 : Nat) = 4294967296 * 65536 by omega, ← Nat.div_div_eq_div_mul, e0]
  simp only [vl, byt]
  simp only [Nat.zero_add, Nat.mul_zero, Nat.pow_zero, Nat.reduceMul, Nat.reduceAdd, Nat.reducePow, Nat.mul_one, Nat.add_zero]
  rw [e0, e1, e2]
  clear e0 e1 e2 h
  omega
theorem stp_cpy' (base : List Int) (at_ len : Nat) (rest : List Int) (h1 : at_ + len ≤ base.length) (h2 : 0 < len) (h3 : base.length < 16777216) (place : Nat) (hp : at_ + len * 4294967296 = place) : stp base (cpyI place 7 ++ rest) = some ((base.drop at_).take len, rest) := by
  unfold cpyI
  have hm := msk_lt place 7
  have hbt := msk_bits place
  have v1 := low4 place at_ len hp (by omega)
  have v2 := high3 place at_ len hp (by omega) (by omega)
  clear hp
  obtain ⟨M, hM⟩ : ∃ M, M = msk place 7 := ⟨_, rfl⟩
  rw [← hM] at hm hbt ⊢
  clear hM
  rw [byl_fl, show fl (byt place) 0 7 = fl (byt place) 0 4 ++ fl (byt place) 4 3 from fl_add _ 4 0 3]
  rw [List.cons_append, stp, if_neg (by omega), if_neg (by omega), List.append_assoc]
  rw [show ((128 + M : Nat) : Int).toNat = 128 + M by omega]
  have p1 := prt_fl (byt place) (128 + M) 4 0 0 0 (fl (byt place) 4 3 ++ rest) (fun i hi => by rw [Nat.zero_add]; exact hbt i (by omega))
  have p2 := prt_fl (byt place) (128 + M) 3 4 0 0 rest (fun i hi => hbt (4 + i) (by omega))
  rw [v1] at p1
  rw [v2] at p2
  rw [p1]
  simp only
  rw [p2]
  simp only
  have hc : cnt len = len := by unfold cnt; rw [if_neg (by omega)]
  rw [hc, if_pos h1]
theorem stp_cpy (base : List Int) (at_ len : Nat) (rest : List Int) (h1 : at_ + len ≤ base.length) (h2 : 0 < len) (h3 : base.length < 16777216) : stp base (cpy at_ len ++ rest) = some ((base.drop at_).take len, rest) :=
  stp_cpy' base at_ len rest h1 h2 h3 _ rfl
/-- How long a copy is. -/
theorem cpy_len (at_ len : Nat) (h1 : at_ < 16777216) (h2 : len < 16777216) : (cpy at_ len).length ≤ 7 := by
  unfold cpy cpyI
  generalize hp : at_ + len * 4294967296 = place
  have e : byt place 3 = 0 := by simp only [byt, Nat.reduceMul, Nat.reducePow]; omega
  rw [List.length_cons, byl_fl]
  have hl : ∀ B k c, (fl B k c).length ≤ c := by
    intro B k c
    induction c generalizing k with
    | zero => simp [fl]
    | succ c ih => rw [fl, List.length_append]; have := ih (k + 1); split <;> simp <;> omega
  rw [show fl (byt place) 0 7 = fl (byt place) 0 3 ++ (fl (byt place) 3 1 ++ fl (byt place) 4 3) from by rw [← fl_add, ← fl_add], List.length_append, List.length_append]
  have a := hl (byt place) 0 3
  have c := hl (byt place) 4 3
  have b : (fl (byt place) 3 1).length = 0 := by simp [fl, e]
  omega
theorem fl7_len (B : Nat → Nat) (e2 : B 2 = 0) (e3 : B 3 = 0) (e6 : B 6 = 0) : (fl B 0 7).length + 1 ≤ 5 ∧ (B 5 = 0 → (fl B 0 7).length + 1 ≤ 4) := by
  have h1 : ∀ b : Nat, (if b = 0 then ([] : List Int) else [(b : Int)]).length ≤ 1 := fun b => by split <;> simp
  have h0 : ∀ b : Nat, b = 0 → (if b = 0 then ([] : List Int) else [(b : Int)]).length = 0 := fun b hb => by rw [if_pos hb]; rfl
  have a0 := h1 (B 0)
  have a1 := h1 (B 1)
  have a2 := h0 _ e2
  have a3 := h0 _ e3
  have a4 := h1 (B 4)
  have a5 := h1 (B 5)
  have a6 := h0 _ e6
  simp only [fl, List.length_append, List.length_nil, Nat.zero_add, Nat.reduceAdd, Nat.add_zero]
  refine ⟨by omega, fun h => ?_⟩
  have a5 := h0 _ h
  omega
theorem byt2 (place at_ len : Nat) (hp : at_ + len * 4294967296 = place) (h1 : at_ < 65536) : byt place 2 = 0 := by
  simp only [byt, Nat.reduceMul, Nat.reducePow]; omega
theorem byt3 (place at_ len : Nat) (hp : at_ + len * 4294967296 = place) (h1 : at_ < 65536) : byt place 3 = 0 := by
  simp only [byt, Nat.reduceMul, Nat.reducePow]; omega
theorem div0 (place at_ len : Nat) (hp : at_ + len * 4294967296 = place) (h1 : at_ < 65536) : place / 4294967296 = len := by omega
theorem byt6 (place len : Nat) (e0 : place / 4294967296 = len) (h2 : len < 65536) : byt place 6 = 0 := by
  simp only [byt, Nat.reduceMul, Nat.reducePow]
  have : place / 281474976710656 = len / 65536 := by rw [show (281474976710656 : Nat) = 4294967296 * 65536 from rfl, ← Nat.div_div_eq_div_mul, e0]
  rw [this]; clear this e0; omega
theorem byt5 (place len : Nat) (e0 : place / 4294967296 = len) (h2 : len < 256) : byt place 5 = 0 := by
  simp only [byt, Nat.reduceMul, Nat.reducePow]
  have : place / 1099511627776 = len / 256 := by rw [show (1099511627776 : Nat) = 4294967296 * 256 from rfl, ← Nat.div_div_eq_div_mul, e0]
  rw [this]; clear this e0; omega
theorem cpyI_len5 (place at_ len : Nat) (hp : at_ + len * 4294967296 = place) (h1 : at_ < 65536) (h2 : len < 65536) : (cpyI place 7).length ≤ 5 ∧ (len < 256 → (cpyI place 7).length ≤ 4) := by
  have e0 := div0 place at_ len hp h1
  have h := fl7_len (byt place) (byt2 place at_ len hp h1) (byt3 place at_ len hp h1) (byt6 place len e0 h2)
  have h5 := byt5 place len e0
  clear hp e0
  unfold cpyI
  rw [List.length_cons, byl_fl]
  exact ⟨h.1, fun g => h.2 (h5 g)⟩
theorem cpy_len5 (at_ len : Nat) (h1 : at_ < 65536) (h2 : len < 65536) : (cpy at_ len).length ≤ 5 ∧ (len < 256 → (cpy at_ len).length ≤ 4) := cpyI_len5 _ at_ len rfl h1 h2
theorem cpyI_pos (place i : Nat) : 0 < (cpyI place i).length := by simp [cpyI]
theorem cpyI_ne (place i : Nat) (rest : List Int) : ¬ cpyI place i ++ rest = [] := by simp [cpyI]
theorem cpy_pos (at_ len : Nat) : 0 < (cpy at_ len).length := cpyI_pos _ _
theorem cpy_ne (at_ len : Nat) (rest : List Int) : ¬ cpy at_ len ++ rest = [] := cpyI_ne _ _ _
/-- 4.2: steps with bytes of their own. -/
def ownS : Nat → List Int → List Int
  | 0, _ => []
  | f + 1, l => if l = [] then [] else ((min 127 l.length : Nat) : Int) :: l.take 127 ++ ownS f (l.drop 127)
def own (l : List Int) : List Int := ownS (l.length + 1) l
theorem ownS_more : ∀ (f : Nat) (l : List Int), l.length < f → ownS f l = ownS (f + 1) l
  | 0, l, h => by omega
  | f + 1, l, h => by
    rw [ownS, ownS]
    by_cases hl : l = []
    · rw [if_pos hl, if_pos hl]
    · rw [if_neg hl, if_neg hl]
      have := List.length_pos_iff.2 hl
      rw [ownS_more f (l.drop 127) (by simp; omega)]
theorem ownS_fuel (l : List Int) : ∀ k, ownS (l.length + 1 + k) l = ownS (l.length + 1) l
  | 0 => rfl
  | k + 1 => by rw [← Nat.add_assoc, ← ownS_more _ l (by omega)]; exact ownS_fuel l k
theorem own_nil : own [] = [] := rfl
theorem own_eq (l : List Int) (h : l ≠ []) : own l = ((min 127 l.length : Nat) : Int) :: l.take 127 ++ own (l.drop 127) := by
  unfold own
  have hl := List.length_pos_iff.2 h
  rw [ownS, if_neg h]
  obtain ⟨k, hk⟩ : ∃ k, l.length = (l.drop 127).length + 1 + k := ⟨l.length - ((l.drop 127).length + 1), by simp; omega⟩
  rw [hk, ownS_fuel]
theorem own_len : ∀ (n : Nat) (l : List Int), l.length = n → (own l).length = n + (n + 126) / 127 := by
  intro n
  induction n using Nat.strongRecOn with
  | _ n ih =>
    intro l hl
    by_cases h : l = []
    · subst h; simp at hl; subst hl; rfl
    · have h0 := List.length_pos_iff.2 h
      rw [own_eq l h]
      have := ih (n - 127) (by omega) (l.drop 127) (by simp; omega)
      simp only [List.length_append, List.length_cons, List.length_take, this]
      omega
theorem own_app (base : List Int) (m : Nat) (rest : List Int) : ∀ (n : Nat) (l out : List Int), l.length = n → IsB l → out.length + l.length ≤ m → appS base m (own l ++ rest) out = appS base m rest (out ++ l) := by
  intro n
  induction n using Nat.strongRecOn with
  | _ n ih =>
    intro l out hl hb hm
    by_cases h : l = []
    · subst h; rw [own_nil]; simp
    · have h0 := List.length_pos_iff.2 h
      rw [own_eq l h, appS_eq, if_neg (by simp)]
      have hs : stp base (((min 127 l.length : Nat) : Int) :: l.take 127 ++ own (l.drop 127) ++ rest) = some (l.take 127, own (l.drop 127) ++ rest) := by
        rw [List.append_assoc, List.cons_append, stp, if_neg (by omega), if_pos (by omega), Int.toNat_natCast]
        have e : (l.take 127).length = min 127 l.length := List.length_take
        rw [if_pos (by rw [List.length_append, e]; omega), ← e, List.take_left, List.drop_left]
      rw [hs]
      simp only
      rw [if_pos (by rw [List.length_take]; omega)]
      rw [ih (n - 127) (by omega) (l.drop 127) (out ++ l.take 127) (by simp; omega) (fun x hx => hb x (List.mem_of_mem_drop hx)) (by simp; omega)]
      rw [List.append_assoc, List.take_append_drop]
theorem cpy_app (base : List Int) (m at_ len : Nat) (rest out : List Int) (h1 : at_ + len ≤ base.length) (h2 : 0 < len) (h3 : base.length < 16777216) (hm : out.length + len ≤ m) : appS base m (cpy at_ len ++ rest) out = appS base m rest (out ++ (base.drop at_).take len) := by
  rw [appS_eq, if_neg (cpy_ne at_ len rest), stp_cpy base at_ len rest h1 h2 h3]
  simp only
  rw [if_pos (by rw [List.length_take, List.length_drop]; omega)]

/-- What a search finds: the longest beginning of b that stands in the base, and where. -/
def Fd (base b : List Int) (at_ len : Nat) : Prop := at_ + len ≤ base.length ∧ len ≤ b.length ∧ (base.drop at_).take len = b.take len ∧ ∀ k, k ≤ b.length → (∃ p q, base = p ++ b.take k ++ q) → k ≤ len
theorem fd_of {t : List Int} {N : Nat} {wd : Nat → List Int} {sh : Nat → Option Nat} {en : Nat → Nat} {del : Nat → Int → Option Nat} {last : Nat} (A : Sam.Sam t N wd sh en del last) (b : List Int) (len s : Nat) (hl : len ≤ b.length) (h : Sam.rd del (b.take len) = some s) (hn : ∀ x, b[len]? = some x → del s x = none) : len ≤ en s ∧ Fd t b (en s - len) len := by
  obtain ⟨h1, h2, h3⟩ := A.stands h
  have e : (b.take len).length = len := by rw [List.length_take]; omega
  rw [e] at h1 h3
  refine ⟨h1, by omega, hl, h3, fun k hk ⟨p, q, hpq⟩ => ?_⟩
  rcases Nat.lt_or_ge len k with hlk | hlk
  · exfalso
    have e1 : b.take k = b.take (len + 1) ++ (b.take k).drop (len + 1) := by
      have := List.take_append_drop (len + 1) (b.take k)
      rw [List.take_take, Nat.min_eq_left (by omega)] at this
      exact this.symm
    obtain ⟨q', hq'⟩ := A.all p (b.take (len + 1)) ((b.take k).drop (len + 1) ++ q) (by
      rw [hpq]
      have e2 : p ++ b.take (len + 1) ++ ((b.take k).drop (len + 1) ++ q) = p ++ (b.take (len + 1) ++ (b.take k).drop (len + 1)) ++ q := by simp only [List.append_assoc]
      rw [e2, ← e1])
    have hlt : len < b.length := by omega
    rw [List.take_succ_eq_append_getElem hlt, Sam.rd_snoc, h] at hq'
    simp only [Option.bind_some] at hq'
    rw [hn _ (List.getElem?_eq_getElem hlt)] at hq'
    cases hq'
  · exact hlk
/-- How a target is cut: what has been told so far, where the bytes of its own begin, where it stands. -/
structure Cu (base target : List Int) (pre : List (List Int × List Int)) (bg at_ : Nat) : Prop where
  all : ∀ P : List (List Int × List Int) → Nat → Nat → Prop, P [] 0 0 → (∀ (pre : List (List Int × List Int)) (bg at_ fr len : Nat), P pre bg at_ → at_ < target.length → Fd base (target.drop at_) fr len → len ≤ (cpy fr len).length → P pre bg (at_ + 1)) →
    (∀ (pre : List (List Int × List Int)) (bg at_ fr len : Nat), P pre bg at_ → at_ < target.length → Fd base (target.drop at_) fr len → (cpy fr len).length < len → P (pre ++ [((target.take at_).drop bg, cpy fr len)]) (at_ + len) (at_ + len)) → P pre bg at_
theorem Cu.start {base target : List Int} : Cu base target [] 0 0 := ⟨fun _ h _ _ => h⟩
theorem Cu.own {base target : List Int} {pre : List (List Int × List Int)} {bg at_ : Nat} (fr len : Nat) (h1 : Cu base target pre bg at_) (h2 : at_ < target.length) (h3 : Fd base (target.drop at_) fr len) (h4 : len ≤ (cpy fr len).length) : Cu base target pre bg (at_ + 1) :=
  ⟨fun P a b c => b pre bg at_ fr len (h1.all P a b c) h2 h3 h4⟩
theorem Cu.copy {base target : List Int} {pre : List (List Int × List Int)} {bg at_ : Nat} (fr len : Nat) (h1 : Cu base target pre bg at_) (h2 : at_ < target.length) (h3 : Fd base (target.drop at_) fr len) (h4 : (cpy fr len).length < len) : Cu base target (pre ++ [((target.take at_).drop bg, cpy fr len)]) (at_ + len) (at_ + len) :=
  ⟨fun P a b c => c pre bg at_ fr len (h1.all P a b c) h2 h3 h4⟩
theorem Cu.ind {base target : List Int} {motive : (pre : List (List Int × List Int)) → (bg at_ : Nat) → Cu base target pre bg at_ → Prop} (start : motive [] 0 0 Cu.start)
    (own : ∀ {pre : List (List Int × List Int)} {bg at_ : Nat} (fr len : Nat) (h1 : Cu base target pre bg at_) (h2 : at_ < target.length) (h3 : Fd base (target.drop at_) fr len) (h4 : len ≤ (cpy fr len).length), motive pre bg at_ h1 → motive pre bg (at_ + 1) (Cu.own fr len h1 h2 h3 h4))
    (copy : ∀ {pre : List (List Int × List Int)} {bg at_ : Nat} (fr len : Nat) (h1 : Cu base target pre bg at_) (h2 : at_ < target.length) (h3 : Fd base (target.drop at_) fr len) (h4 : (cpy fr len).length < len), motive pre bg at_ h1 → motive (pre ++ [((target.take at_).drop bg, cpy fr len)]) (at_ + len) (at_ + len) (Cu.copy fr len h1 h2 h3 h4))
    {pre : List (List Int × List Int)} {bg at_ : Nat} (h : Cu base target pre bg at_) : motive pre bg at_ h := by
  have k : ∃ h', motive pre bg at_ h' := h.all (fun p b c => ∃ h', motive p b c h') ⟨_, start⟩ (fun p b c fr len ⟨h1, m⟩ h2 h3 h4 => ⟨_, own fr len h1 h2 h3 h4 m⟩) (fun p b c fr len ⟨h1, m⟩ h2 h3 h4 => ⟨_, copy fr len h1 h2 h3 h4 m⟩)
  obtain ⟨_, m⟩ := k
  exact m
theorem Cu.le {base target : List Int} {pre : List (List Int × List Int)} {bg at_ : Nat} (h : Cu base target pre bg at_) : bg ≤ at_ ∧ at_ ≤ target.length := by
  induction h using Cu.ind with
  | start => exact ⟨Nat.le_refl _, Nat.zero_le _⟩
  | own fr len h1 h2 h3 h4 ih => omega
  | copy fr len h1 h2 h3 h4 ih =>
    have := h3.2.1
    simp at this
    omega
/-- What is written of them. -/
def stps (pre : List (List Int × List Int)) : List Int := pre.flatMap fun x => own x.1 ++ x.2
theorem stps_snoc (pre : List (List Int × List Int)) (x : List Int × List Int) : stps (pre ++ [x]) = stps pre ++ (own x.1 ++ x.2) := by simp [stps]
theorem mid (target : List Int) (bg at_ : Nat) (h1 : bg ≤ at_) (h2 : at_ ≤ target.length) : target.take bg ++ (target.take at_).drop bg = target.take at_ := by
  have := List.take_append_drop bg (target.take at_)
  rwa [List.take_take, Nat.min_eq_left h1] at this
theorem Cu.app {base target : List Int} {pre : List (List Int × List Int)} {bg at_ : Nat} (h : Cu base target pre bg at_) (hb : IsB target) (h3 : base.length < 16777216) (rest : List Int) : appS base target.length (stps pre ++ rest) [] = appS base target.length rest (target.take bg) := by
  induction h using Cu.ind generalizing rest with
  | start => simp [stps]
  | own fr len g1 g2 g3 g4 ih => exact ih rest
  | @copy pre bg at_ fr len g1 g2 g3 g4 ih =>
    obtain ⟨l1, l2⟩ := g1.le
    obtain ⟨f1, f2, f3, f4⟩ := g3
    rw [List.length_drop] at f2
    rw [stps_snoc, List.append_assoc, ih, List.append_assoc]
    rw [own_app base _ _ _ _ _ rfl (fun x hx => hb x (List.mem_of_mem_take (List.mem_of_mem_drop hx))) (by simp; omega)]
    rw [mid target bg at_ l1 l2, cpy_app base _ fr len rest _ f1 (by omega) h3 (by simp; omega), f3]
    congr 1
    rw [← List.take_add]
/-- The whole delta. -/
def mk (base target : List Int) (pre : List (List Int × List Int)) (bg : Nat) : List Int := szw base.length ++ (szw target.length ++ (stps pre ++ own (target.drop bg)))
theorem mk_szs (base target : List Int) (pre : List (List Int × List Int)) (bg : Nat) (h1 : base.length ≤ 100000) (h2 : target.length ≤ 100000) : szs (mk base target pre bg) = some (base.length, target.length, stps pre ++ own (target.drop bg)) := by
  unfold szs mk
  rw [sz_szw (by omega)]
  simp only
  rw [sz_szw (by omega)]
theorem mk_app {base target : List Int} {pre : List (List Int × List Int)} {bg : Nat} (h : Cu base target pre bg target.length) (hb : IsB target) (h1 : base.length ≤ 100000) (h2 : target.length ≤ 100000) : app base (mk base target pre bg) = some target := by
  unfold app
  rw [mk_szs base target pre bg h1 h2]
  simp only
  rw [if_pos ⟨trivial, h2⟩]
  show appS base target.length (stps pre ++ own (target.drop bg)) [] = some target
  obtain ⟨l1, l2⟩ := h.le
  rw [h.app hb (by omega)]
  have := own_app base target.length [] _ (target.drop bg) (target.take bg) rfl (fun x hx => hb x (List.mem_of_mem_drop hx)) (by simp; omega)
  rw [List.append_nil] at this
  rw [this, List.take_append_drop, appS_eq, if_pos rfl, if_pos rfl]
/-- It is not long. -/
theorem Cu.short {base target : List Int} {pre : List (List Int × List Int)} {bg at_ : Nat} (h : Cu base target pre bg at_) : 127 * (stps pre).length ≤ 128 * bg := by
  induction h using Cu.ind with
  | start => simp [stps]
  | own fr len g1 g2 g3 g4 ih => exact ih
  | @copy pre bg at_ fr len g1 g2 g3 g4 ih =>
    obtain ⟨l1, l2⟩ := g1.le
    rw [stps_snoc, List.length_append, List.length_append, own_len _ _ rfl]
    have e : ((target.take at_).drop bg).length = at_ - bg := by simp; omega
    simp only [e]
    omega
theorem szw_len {n : Nat} (h : n < 2097152) : (szw n).length ≤ 3 := by
  unfold szw
  have key : ∀ n, wsz 5 n = if n < 128 then [(n : Int)] else ((n % 128 + 128 : Nat) : Int) :: (if n / 128 < 128 then [((n / 128 : Nat) : Int)] else ((n / 128 % 128 + 128 : Nat) : Int) :: wsz 3 (n / 128 / 128)) := fun n => by rw [wsz, wsz]
  rw [key]
  split
  · simp
  · split
    · simp
    · rw [wsz, if_pos (by omega)]; simp
theorem mk_len {base target : List Int} {pre : List (List Int × List Int)} {bg : Nat} (h : Cu base target pre bg target.length) (h1 : base.length ≤ 100000) (h2 : target.length ≤ 100000) : (mk base target pre bg).length ≤ target.length + target.length / 100 + 20 := by
  unfold mk
  have a := szw_len (n := base.length) (by omega)
  have b := szw_len (n := target.length) (by omega)
  have c := h.short
  obtain ⟨l1, l2⟩ := h.le
  simp only [List.length_append, own_len _ _ rfl, List.length_drop]
  omega
end Go.Proofs.YtblegkefeiefjaaDoor.Plain
