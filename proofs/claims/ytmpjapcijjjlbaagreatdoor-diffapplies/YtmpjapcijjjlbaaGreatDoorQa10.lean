import Derived.Test.YtmpjapcijjjlbaaGreatDoorQa09
import Derived.Test.YtmpjapcijjjlbaaGreatDoorQa08
import Derived.Laws.IdiomStrings
import Derived.Deep.QuietTactic
import Derived.BigQuiet
import Derived.Test.YtmpjapcijjjlbaaGreatDoorQa02
namespace Go.Proofs.YtmpjapcijjjlbaaGreatDoor
open Go.RowKit
set_option linter.unusedVariables false
set_option linter.unusedSimpArgs false
theorem inter_nil : ∀ M : List Str, ([] : Str).intercalate M = M.flatten
  | [] => rfl
  | [x] => by simp [List.intercalate]
  | x :: y :: r => by
    have h := inter_nil (y :: r)
    unfold List.intercalate at h ⊢
    simp only [List.intersperse, List.flatten_cons, List.nil_append] at h ⊢
    rw [h]
theorem flats_len : ∀ M : List Str, Sht M → M.flatten.length ≤ 1000000 * M.length
  | [], _ => by simp
  | x :: r, h => by
    have h1 := flats_len r (fun y hy => h y (List.mem_cons_of_mem _ hy))
    have h2 := h x (by simp)
    rw [List.flatten_cons, List.length_append, List.length_cons]
    omega
theorem join_any {w : World} (a : Option Addr) (cap : Nat) (M : List Str) (hP : PS w a cap M) (hn : M.length ≤ 10000000) (hl : Sht M) :
    Calls Tryz.prog 20 #[.slice a M.length cap, .string ⟨#[]⟩] w fun e w' => e = .returned (.string ⟨M.flatten.toArray⟩) ∧ Below w.heap.size w w' := by
  rcases Nat.eq_zero_or_pos M.length with h0 | h0
  · have hM : M = [] := List.length_eq_zero_iff.1 h0
    subst hM
    refine (show Calls Tryz.prog 20 #[.slice a 0 cap, .string ⟨#[]⟩] w fun e w' => e = .returned (.string ⟨#[]⟩) ∧ w' = w from Any.strings_Join_none Tryz.lays156 Tryz.Builder_Extra_156 a cap ⟨#[]⟩ w).mono ?_
    rintro e w' ⟨rfl, rfl⟩
    exact ⟨rfl, Below.refl _ _⟩
  · obtain ⟨b, off, rfl, e2, e3⟩ := hP.at_ h0
    have hmap : (M.map fun s => (⟨s.toArray⟩ : ByteArray)).map (·.data.toList) = M := by
      rw [List.map_map]
      have : ((fun x : ByteArray => x.data.toList) ∘ fun s : Str => (⟨s.toArray⟩ : ByteArray)) = id := funext fun s => by simp
      rw [this, List.map_id]
    have hj : Lib.join ((M.map fun s => (⟨s.toArray⟩ : ByteArray)).map (·.data.toList)) ((⟨#[]⟩ : ByteArray).data.toList) = M.flatten := by
      rw [hmap]
      exact inter_nil M
    have h := Any.strings_Join Tryz.lays156 Tryz.Builder_Extra_156 b off cap (M.map fun s => (⟨s.toArray⟩ : ByteArray)) ⟨#[]⟩ w (fun j x hx => by
      rw [List.getElem?_map] at hx
      cases hm : M[j]? with
      | none => rw [hm] at hx; cases hx
      | some s =>
        rw [hm] at hx
        cases hx
        have hjl : j < M.length := by
          rcases Nat.lt_or_ge j M.length with h | h
          · exact h
          · rw [List.getElem?_eq_none h] at hm; cases hm
        have := hP.str j hjl
        rw [List.getD_eq_getElem?_getD, hm] at this
        exact this) e2 (by rw [List.length_map]; omega) (by rw [List.length_map]; exact hP.capl) (by rw [hj]; have := flats_len M hl; omega)
    rw [hj, List.length_map] at h
    exact h
theorem ctG_le : ∀ l : List Gh, ctG l ≤ ctL (l.map ab)
  | [] => Nat.le_refl _
  | y :: r => by
    have := ctG_le r
    unfold ctG ctL at this ⊢
    simp only [List.map_cons, List.sum_cons]
    have e : (ab y).2.length = y.2.2.2.2.length := rfl
    omega
theorem ctG_stl : ∀ (l : List Gh) (g : Int), ctG (stl g l) = ctG l
  | [], g => rfl
  | y :: r, g => by
    rw [stl]
    have := fun g => ctG_stl r g
    unfold ctG at this ⊢
    rw [List.map_cons, List.map_cons, List.sum_cons, List.sum_cons, this]
    rfl
def Good (p : Str) (l : List Gh) : Prop := Rgt (stl 0 l) ∧ (stl 0 l).flatMap hkG = p
theorem Tryz.results8 : Tryz.f8.results = #[.tmp 4, .tmp 5] := by kernel_rfl
end Go.Proofs.YtmpjapcijjjlbaaGreatDoor
namespace Go.Proofs.YtmpjapcijjjlbaaGreatDoor
set_option linter.unusedVariables false
set_option linter.unusedSimpArgs false
theorem lns_one : ∀ (s : Str), ∀ x ∈ lns s, (10 : UInt8) ∉ x.dropLast
  | [], x, hx => by cases hx
  | c :: r, x, hx => by
    have ih := lns_one r
    have hne := lns_ne r
    rw [lns] at hx
    split at hx
    · rcases List.mem_cons.1 hx with rfl | hx
      · simp
      · exact ih x hx
    · rename_i hc
      cases h : lns r with
      | nil => rw [h] at hx; simp at hx; subst hx; simp
      | cons l t =>
        rw [h] at hx ih hne
        rcases List.mem_cons.1 hx with rfl | hx
        · have h0 := hne l (by simp)
          rw [List.dropLast_cons_of_ne_nil (by intro e; rw [e] at h0; simp at h0)]
          intro hm
          rcases List.mem_cons.1 hm with e | hm
          · exact hc e.symm
          · exact ih l (by simp) hm
        · exact ih x (by simp [hx])
end Go.Proofs.YtmpjapcijjjlbaaGreatDoor
namespace Go.Proofs.YtmpjapcijjjlbaaGreatDoor
set_option linter.unusedVariables false
set_option linter.unusedSimpArgs false
def prj (y : Gh) : Int × Int × List Ed := (y.1, y.2.1, y.2.2.2.2)
def okP (e : Int) (z : Int × Int × List Ed) : Prop := okG e (z.1, z.2.1, none, 0, z.2.2)
def RgR : Int → List (Int × Int × List Ed) → Prop
  | _, [] => True
  | e, z :: r => okP e z ∧ RgR (z.1 + ((cA z.2.2 : Nat) : Int)) r
theorem rgr : ∀ (l : List Gh) (e : Int), RgR e (l.map prj) → ∀ j, j < l.length → okG (if j = 0 then e else enA l j) (l.getD j g0)
  | [], e, _, j, hj => by cases hj
  | y :: r, e, h, 0, _ => h.1
  | y :: r, e, h, j + 1, hj => by
    have := rgr r _ h.2 j (by simpa using hj)
    cases j with
    | zero => exact this
    | succ j => exact this
theorem rgr_ok (l : List Gh) (h : RgR 0 (l.map prj)) : Rgt l := fun j hj => by
  have := rgr l 0 h j hj
  cases j with
  | zero => exact this
  | succ j => exact this
def hkP (z : Int × Int × List Ed) : Str := headT z.1.toNat (cA z.2.2) z.2.1.toNat (cB z.2.2) ++ z.2.2.flatMap lineT
theorem flat_prj (l : List Gh) : l.flatMap hkG = (l.map prj).flatMap hkP := by rw [List.flatMap_map]; rfl
end Go.Proofs.YtmpjapcijjjlbaaGreatDoor
namespace Go.Proofs.YtmpjapcijjjlbaaGreatDoor
open Go.RowKit
set_option linter.unusedVariables false
set_option linter.unusedSimpArgs false
def At (w : World) (b off : Nat) (zs : List Int) : Prop := ∀ i, i < zs.length → w.cell? ⟨b, off + i, none⟩ = some (.int .u8 (zs.getD i 0))
set_option maxHeartbeats 400000 in
theorem same_true (b off cap b' off' cap' : Nat) (zs : List Int) (w : World) (hl : zs.length ≤ 1000000000000) (hc : At w b off zs) (hc' : At w b' off' zs) :
    Calls Tryz.prog 9 #[.slice (some ⟨b, off, none⟩) zs.length cap, .slice (some ⟨b', off', none⟩) zs.length cap'] w fun e w' => e = .returned (.bool true) ∧ ∃ n, w' = w.drewN n := by
  go_enter Tryz.func9, Tryz.ntmps9
  go_wp2
  go_loopw [5] (fun i wr => ∃ k n : Nat, k ≤ zs.length ∧ i = .int .i64 k ∧ wr = w.drewN n) (fun i _ => zs.length - (intOf i).toNat)
  case atStart => exact ⟨0, 0, Nat.zero_le _, rfl, rfl⟩
  case round =>
    obtain ⟨k, n, hk, rfl, rfl⟩ := hrel
    by_cases hlt : k < zs.length
    · have hcell := hc k hlt
      have hcell' := hc' k hlt
      go_wp2
      go_quiet (fail)
      go_wp2
      go_roundw
      case rel => exact ⟨k + 1, _, by omega, by go_num, rfl⟩
      case measure => simp [intOf]; omega
    · go_wp2
      go_ret
      exact ⟨rfl, n, rfl⟩
set_option maxHeartbeats 400000 in
theorem same_none (a a' : Option Addr) (cap cap' : Nat) (w : World) :
    Calls Tryz.prog 9 #[.slice a 0 cap, .slice a' 0 cap'] w fun e w' => e = .returned (.bool true) ∧ ∃ n, w' = w.drewN n := by
  go_enter Tryz.func9, Tryz.ntmps9
  go_wp2
  go_loop [5] (fun i => i = .int .i64 0) (fun _ => 0)
  case atStart => rfl
  case round =>
    obtain rfl := hrel
    go_wp2
    go_ret
    exact ⟨rfl, 0, rfl⟩
theorem same_any (a a' : Option Addr) (cap cap' : Nat) (zs : List Int) (w : World) (hl : zs.length ≤ 1000000000000) (hc : 0 < zs.length → ∃ b off, a = some ⟨b, off, none⟩ ∧ At w b off zs) (hc' : 0 < zs.length → ∃ b off, a' = some ⟨b, off, none⟩ ∧ At w b off zs) :
    Calls Tryz.prog 9 #[.slice a zs.length cap, .slice a' zs.length cap'] w fun e w' => e = .returned (.bool true) ∧ ∃ n, w' = w.drewN n := by
  by_cases h0 : zs.length = 0
  · rw [h0]; exact same_none a a' cap cap' w
  · obtain ⟨b, off, rfl, h⟩ := hc (by omega)
    obtain ⟨b', off', rfl, h'⟩ := hc' (by omega)
    exact same_true b off cap b' off' cap' zs w hl h h'
def nums (s : Str) : List Int := s.map (fun x => (x.toNat : Int))
theorem nums_len (s : Str) : (nums s).length = s.length := by simp [nums]
theorem nums_at (s : Str) (i : Nat) (hi : i < s.length) : (nums s).getD i 0 = ((s.getD i 0).toNat : Int) := by
  simp [nums, List.getD_eq_getElem?_getD, List.getElem?_eq_getElem hi]
theorem pb_at {w : World} {b off cap : Nat} {s : Str} (h : PB w (some ⟨b, off, none⟩) cap s) : At w b off (nums s) := fun i hi => by
  rw [nums_len] at hi
  rw [nums_at s i hi]
  exact PB.cell h i hi
theorem same_pb {w : World} (a : Option Addr) (ca : Nat) (b : Option Addr) (cb : Nat) (s : Str) (hA : PB w a ca s) (hB : PB w b cb s) (hl : s.length ≤ 1000000000000) : Calls Tryz.prog 9 #[.slice a s.length ca, .slice b s.length cb] w fun e w' => e = .returned (.bool true) ∧ ∃ n, w' = w.drewN n := by
  have := same_any a b ca cb (nums s) w (by rw [nums_len]; exact hl) (fun h0 => by
    rw [nums_len] at h0
    obtain ⟨b', off, e1, _⟩ := hA.at_ h0
    subst e1
    exact ⟨b', off, rfl, pb_at hA⟩) (fun h0 => by
    rw [nums_len] at h0
    obtain ⟨b', off, e1, _⟩ := hB.at_ h0
    subst e1
    exact ⟨b', off, rfl, pb_at hB⟩)
  rw [nums_len] at this
  exact this
theorem tell_nil (w : World) : Calls Tryz.prog 10 #[.nilIface] w fun e w' => e = .returned (.int .i64 0) ∧ Below w.heap.size w w' := by
  have HB : Hid (Below w.heap.size w (w.alloc (.cells #[.int .i64 0] 33))) := (Below.refl _ w).alloc (Nat.le_refl _) _
  go_enter Tryz.func10, Tryz.ntmps10
  go_wp2
  go_ret
  exact ⟨rfl, HB.out⟩
end Go.Proofs.YtmpjapcijjjlbaaGreatDoor
namespace Go.Proofs.YtmpjapcijjjlbaaGreatDoor
open Go.RowKit
set_option linter.unusedVariables false
set_option linter.unusedSimpArgs false
def wrd (s x : Str) : Str × Bool := if s.take x.length = x then (s.drop x.length, true) else (s, false)
theorem sizeT (s : Str) : (⟨s.toArray⟩ : ByteArray).size = s.length := by
  show s.toArray.size = _
  simp
theorem Tryz.results69 : Tryz.f69.results = #[.tmp 4, .tmp 5] := by kernel_rfl
set_option maxRecDepth 20000 in
theorem word_any (s x : Str) (w : World) : Calls Tryz.prog 69 #[.string ⟨s.toArray⟩, .string ⟨x.toArray⟩] w fun e w' => e = .returned (.tuple #[.string ⟨(wrd s x).1.toArray⟩, .bool (wrd s x).2]) ∧ w' = w := by
  obtain ⟨S, HS⟩ : ∃ Z : ByteArray, Hid (⟨s.toArray⟩ = Z) := ⟨_, hid rfl⟩
  obtain ⟨X, HX⟩ : ∃ Z : ByteArray, Hid (⟨x.toArray⟩ = Z) := ⟨_, hid rfl⟩
  obtain ⟨n, HN⟩ : ∃ n, Hid (s.length = n) := ⟨_, rfl⟩
  obtain ⟨m, HM⟩ : ∃ n, Hid (x.length = n) := ⟨_, rfl⟩
  have hSs : S.size = n := by rw [← HS.out, sizeT]; exact HN.out
  have hXs : X.size = m := by rw [← HX.out, sizeT]; exact HM.out
  by_cases h0 : n < m
  · have hi : (n : Int) < (m : Int) := by omega
    have HW : Hid (wrd s x = (s, false)) := hid (by
      unfold wrd
      rw [if_neg]
      intro h
      have := congrArg List.length h
      rw [List.length_take] at this
      have := HN.out
      have := HM.out
      omega)
    rw [HW.out]
    simp only
    rw [HS.out, HX.out]
    go_enter Tryz.func69, Tryz.ntmps69
    go_wp2
    refine bodyPost_ret (results_tmp2 Tryz.results69 _ _ _) rfl ?_
    exact ⟨rfl, rfl⟩
  · have hi : ¬ (n : Int) < (m : Int) := by omega
    obtain ⟨T, HT⟩ : ∃ Z : ByteArray, Hid (⟨(s.take x.length).toArray⟩ = Z) := ⟨_, hid rfl⟩
    obtain ⟨D, HD⟩ : ∃ Z : ByteArray, Hid (⟨(s.drop x.length).toArray⟩ = Z) := ⟨_, hid rfl⟩
    have hE1 : S.extract 0 m = T := by
      rw [← HS.out, ← HT.out, ext_txt, ← HM.out, List.drop_zero, Nat.sub_zero]
    have hE2 : S.extract m n = D := by
      rw [← HS.out, ← HD.out, ext_txt, ← HM.out, ← HN.out, List.take_of_length_le (by rw [List.length_drop]; omega)]
    by_cases he : s.take x.length = x
    · have HW : Hid (wrd s x = (s.drop x.length, true)) := hid (by unfold wrd; rw [if_pos he])
      have hb : (T.toList != X.toList) = false := by rw [← HT.out, ← HX.out, he]; simp
      have hbp : T.toList = X.toList := by rw [← HT.out, ← HX.out, he]
      rw [HW.out]
      simp only
      rw [HS.out, HX.out, HD.out]
      clear he
      go_enter Tryz.func69, Tryz.ntmps69
      go_wp2
      refine bodyPost_ret (results_tmp2 Tryz.results69 _ _ _) rfl ?_
      exact ⟨rfl, rfl⟩
    · have HW : Hid (wrd s x = (s, false)) := hid (by unfold wrd; rw [if_neg he])
      have hbp : ¬ T.toList = X.toList := by
        rw [← HT.out, ← HX.out]
        simp
        exact he
      have hb2 : (T.toList == X.toList) = false := by simpa using hbp
      rw [HW.out]
      simp only
      rw [HS.out, HX.out]
      clear he
      go_enter Tryz.func69, Tryz.ntmps69
      go_wp2
      refine bodyPost_ret (results_tmp2 Tryz.results69 _ _ _) rfl ?_
      exact ⟨rfl, rfl⟩
def isD (c : UInt8) : Bool := decide (48 ≤ c.toNat) && decide (c.toNat ≤ 57)
def dgn : Nat → Str → Nat
  | 0, _ => 0
  | _, [] => 0
  | k + 1, c :: r => if isD c then dgn k r + 1 else 0
def dgv (l : Str) : Nat := l.foldl (fun n c => n * 10 + (c.toNat - 48)) 0
def nbr (s : Str) : Nat × Str × Bool := (dgv (s.take (dgn 10 s)), s.drop (dgn 10 s), decide (0 < dgn 10 s) && decide (dgn 10 s < 10) && (decide (dgn 10 s = 1) || decide (s.getD 0 0 ≠ 48)))
theorem dgn_le : ∀ (k : Nat) (s : Str), dgn k s ≤ k ∧ dgn k s ≤ s.length
  | 0, s => by cases s <;> simp [dgn]
  | k + 1, [] => by simp [dgn]
  | k + 1, c :: r => by
    have := dgn_le k r
    rw [dgn]
    split <;> simp <;> omega
theorem dgn_at : ∀ (k : Nat) (s : Str) (i : Nat), i < dgn k s → isD (s.getD i 0) = true
  | 0, s, i, h => by cases s <;> simp [dgn] at h
  | k + 1, [], i, h => by simp [dgn] at h
  | k + 1, c :: r, i, h => by
    rw [dgn] at h
    split at h
    · rename_i hc
      cases i with
      | zero => exact hc
      | succ i => exact dgn_at k r i (by omega)
    · omega
theorem dgn_end : ∀ (k : Nat) (s : Str), dgn k s < k → dgn k s < s.length → isD (s.getD (dgn k s) 0) = false
  | 0, s, h, _ => by omega
  | k + 1, [], h, h2 => by simp at h2
  | k + 1, c :: r, h, h2 => by
    rw [dgn] at h h2 ⊢
    split
    · rename_i hc
      rw [if_pos hc] at h h2
      exact dgn_end k r (by omega) (by simpa using h2)
    · rename_i hc
      simpa using hc
theorem dgv_snoc (l : Str) (c : UInt8) : dgv (l ++ [c]) = dgv l * 10 + (c.toNat - 48) := by
  unfold dgv
  rw [List.foldl_append]
  rfl
theorem dgv_le : ∀ (l : Str), (∀ c ∈ l, isD c = true) → dgv l < 10 ^ l.length := fun l => by
  suffices h : ∀ (n : Nat) (l : Str), l.length = n → (∀ c ∈ l, isD c = true) → dgv l < 10 ^ n from fun hc => h l.length l rfl hc
  intro n
  induction n with
  | zero => intro l hl _; rw [List.length_eq_zero_iff.1 hl]; decide
  | succ n ih =>
    intro l hl hc
    rcases List.eq_nil_or_concat l with h | ⟨l', c, h⟩
    · subst h; simp at hl
    · subst h
      simp only [List.concat_eq_append] at hl hc ⊢
      rw [List.length_append] at hl
      have h1 := ih l' (by simpa using hl) (fun x hx => hc x (by simp [hx]))
      have h2 := hc c (by simp)
      unfold isD at h2
      simp at h2
      rw [dgv_snoc, Nat.pow_succ]
      omega
end Go.Proofs.YtmpjapcijjjlbaaGreatDoor
namespace Go.Proofs.YtmpjapcijjjlbaaGreatDoor
open Go.RowKit
set_option linter.unusedVariables false
set_option linter.unusedSimpArgs false
theorem Tryz.results70 : Tryz.f70.results = #[.tmp 2, .tmp 3, .tmp 4] := by kernel_rfl
theorem results_t3 {fn : Func} {t u v : Tmp} (h : fn.results = #[.tmp t, .tmp u, .tmp v]) (tmps : Array Value) (P : Program) (w : World) :
    (results fn tmps).run P w = .ok (.tuple #[tmps.getD t undef, tmps.getD u undef, tmps.getD v undef]) w := by
  simp [results, h]
theorem dgv_take (s : Str) (k : Nat) (hk : k < dgn 10 s) : dgv (s.take (k + 1)) = dgv (s.take k) * 10 + ((s.getD k 0).toNat - 48) ∧ dgv (s.take k) < 10 ^ 9 := by
  have h1 := dgn_le 10 s
  refine ⟨by rw [take_snocG 0 s k (by omega), dgv_snoc], ?_⟩
  have h2 := dgv_le (s.take k) (fun c hc => by
    obtain ⟨i, hi, e⟩ := List.getElem_of_mem hc
    rw [List.length_take] at hi
    have := dgn_at 10 s i (by omega)
    rw [List.getD_eq_getElem?_getD, List.getElem?_eq_getElem (by omega)] at this
    rw [← e, List.getElem_take]
    exact this)
  rw [List.length_take] at h2
  exact Nat.lt_of_lt_of_le h2 (Nat.pow_le_pow_right (by omega) (by omega))
set_option maxRecDepth 20000 in
set_option maxHeartbeats 2000000 in
theorem number_any (s : Str) (hl : s.length ≤ 1000000) (w : World) : Calls Tryz.prog 70 #[.string ⟨s.toArray⟩] w fun e w' => e = .returned (.tuple #[.int .i64 ((nbr s).1 : Int), .string ⟨(nbr s).2.1.toArray⟩, .bool (nbr s).2.2]) ∧ Below w.heap.size w w' := by
  obtain ⟨S, HS⟩ : ∃ Z : ByteArray, Hid (⟨s.toArray⟩ = Z) := ⟨_, hid rfl⟩
  obtain ⟨n, HN⟩ : ∃ n, Hid (s.length = n) := ⟨_, rfl⟩
  obtain ⟨d, HD⟩ : ∃ n, Hid (dgn 10 s = n) := ⟨_, rfl⟩
  have hn6 : n ≤ 1000000 := by rw [← HN.out]; exact hl
  have hSs : S.size = n := by rw [← HS.out, sizeT]; exact HN.out
  have hd10 : d ≤ 10 := by rw [← HD.out]; exact (dgn_le 10 s).1
  have hdn : d ≤ n := by rw [← HD.out, ← HN.out]; exact (dgn_le 10 s).2
  have HIX : Hid (∀ (k : Nat) (h : k < S.size), S[k]'h = s.getD k 0) := hid (fun k h => by
    have := Lib.data_getElem? S k h
    rw [List.getD_eq_getElem?_getD]
    have e : S.data.toList = s := by rw [← HS.out]
    rw [e] at this
    rw [this]
    rfl)
  obtain ⟨V, HV⟩ : ∃ v, Hid (dgv (s.take d) = v) := ⟨_, rfl⟩
  obtain ⟨R, HR⟩ : ∃ Z : ByteArray, Hid (⟨(s.drop d).toArray⟩ = Z) := ⟨_, hid rfl⟩
  obtain ⟨bo, HBO⟩ : ∃ b, Hid ((decide (0 < d) && decide (d < 10) && (decide (d = 1) || decide (s.getD 0 0 ≠ 48))) = b) := ⟨_, rfl⟩
  have HNB : Hid (nbr s = (V, s.drop d, bo)) := hid (by unfold nbr; rw [HD.out, HV.out, HBO.out])
  have hE2 : S.extract d n = R := by
    rw [← HS.out, ← HR.out, ext_txt, ← HN.out, List.take_of_length_le (by rw [List.length_drop]; omega)]
  rw [HNB.out]
  simp only
  rw [HS.out, HR.out]
  clear hl
  go_enter Tryz.func70, Tryz.ntmps70
  go_wp2_with fail
  go_loopg [5, 6] d (fun gg kv nv wr => ∃ (k v : Nat), k ≤ d ∧ gg = d - k ∧ kv = .int .i64 k ∧ nv = .int .i64 v ∧ wr = w ∧ Hid (dgv (s.take k) = v))
  case atStart => exact ⟨0, 0, Nat.zero_le _, rfl, rfl, rfl, rfl, hid rfl⟩
  case round =>
    obtain ⟨k, v, hk, hkk, rfl, rfl, rfl, HVK⟩ := hrel
    by_cases hlt : k < d
    · have hkn : (k : Int) < (n : Int) := by omega
      have hk10 : (k : Int) < 10 := by omega
      have HT : Hid (dgv (s.take (k + 1)) = v * 10 + ((s.getD k 0).toNat - 48) ∧ v < 10 ^ 9) := hid (by rw [← HVK.out]; exact dgv_take s k (by rw [HD.out]; exact hlt))
      have hdg := dgn_at 10 s k (by rw [HD.out]; exact hlt)
      obtain ⟨x, HX⟩ : ∃ x, Hid (s.getD k 0 = x) := ⟨_, rfl⟩
      rw [HX.out] at hdg HT
      have hx : ∀ h : k < S.size, S[k]'h = x := fun h => by rw [HIX.out k h]; exact HX.out
      have hx1 : 48 ≤ x.toNat ∧ x.toNat ≤ 57 := by unfold isD at hdg; simpa using hdg
      have hv9 := HT.out.2
      have hxi : (48 : Int) ≤ (x.toNat : Int) := by omega
      have hxj : (x.toNat : Int) ≤ 57 := by omega
      clear hdg
      go_wp2
      go_roundg (d - (k + 1))
      case measure => omega
      case rel => exact ⟨k + 1, v * 10 + (x.toNat - 48), by omega, rfl, by go_num, by congr 1; omega, rfl, hid HT.out.1⟩
    · obtain rfl : k = d := by omega
      have HVE : Hid (v = V) := hid (by rw [← HVK.out, HV.out])
      have HBQ : Hid (∀ q, Below wr.heap.size wr (wr.drewN q)) := hid (fun q => below_drewH (Below.refl _ _) q)
      have HX0 : Hid (∀ h : 0 < S.size, S[0]'h = s.getD 0 0) := hid (fun h => HIX.out 0 h)
      by_cases hkn : k < n
      · have hki : (k : Int) < (n : Int) := by omega
        by_cases hk10 : k < 10
        · have hk10i : (k : Int) < 10 := by omega
          have hnd := dgn_end 10 s (by rw [HD.out]; exact hk10) (by rw [HD.out, HN.out]; exact hkn)
          rw [HD.out] at hnd
          obtain ⟨x, HX⟩ : ∃ x, Hid (s.getD k 0 = x) := ⟨_, rfl⟩
          rw [HX.out] at hnd
          have hx : ∀ h : k < S.size, S[k]'h = x := fun h => by rw [HIX.out k h]; exact HX.out
          by_cases h48 : 48 ≤ x.toNat
          · have hxi : (48 : Int) ≤ (x.toNat : Int) := by omega
            have hxj : ¬ (x.toNat : Int) ≤ 57 := by unfold isD at hnd; simp at hnd; have := hnd (by omega); omega
            clear hnd
            rcases (by omega : k = 0 ∨ k = 1 ∨ (2 ≤ k ∧ k < 10)) with h0 | h1 | h2
            · have HBB : Hid (bo = false) := hid (by rw [← HBO.out]; simp; omega)
              have hk0 : ¬ (0 : Int) < (k : Int) := by omega
              have hd0 : decide (0 < k) = false := decide_eq_false (by omega)
              clear h0
              go_wp2
              go_quiet (fail)
              go_wp2
              refine bodyPost_ret (results_t3 Tryz.results70 _ _ _) rfl ?_
              exact ⟨by rw [HVE.out, HBB.out]; rfl, HBQ.out _⟩
            · have HBB : Hid (bo = true) := hid (by rw [← HBO.out]; simp; omega)
              have hk0 : (0 : Int) < (k : Int) := by omega
              have hd0 : decide (0 < k) = true := decide_eq_true (by omega)
              have hk10j : (k : Int) < 10 := by omega
              have hd10 : decide (k < 10) = true := decide_eq_true (by omega)
              have hk1 : ((k : Int) == 1) = true := by simp; omega
              have hd1 : decide (k = 1) = true := decide_eq_true (by omega)
              have hd1i : decide ((k : Int) = 1) = true := decide_eq_true (by omega)
              clear h1
              go_wp2
              go_quiet (fail)
              go_wp2
              refine bodyPost_ret (results_t3 Tryz.results70 _ _ _) rfl ?_
              exact ⟨by rw [HVE.out, HBB.out]; rfl, HBQ.out _⟩
            · have hk0 : (0 : Int) < (k : Int) := by omega
              have hd0 : decide (0 < k) = true := decide_eq_true (by omega)
              have hk10j : (k : Int) < 10 := by omega
              have hd10 : decide (k < 10) = true := decide_eq_true (by omega)
              have hk1 : ¬ (k : Int) = 1 := by omega
              have hk1b : ((k : Int) == 1) = false := by simp; omega
              have hd1 : decide (k = 1) = false := decide_eq_false (by omega)
              have hd1i : decide ((k : Int) = 1) = false := decide_eq_false (by omega)
              obtain ⟨x0, HX0'⟩ : ∃ x, Hid (s.getD 0 0 = x) := ⟨_, rfl⟩
              have hx0 : ∀ h : 0 < S.size, S[0]'h = x0 := fun h => by rw [HX0.out h]; exact HX0'.out
              have hn0 : 0 < n := by omega
              by_cases hz : x0.toNat = 48
              · have HBB : Hid (bo = false) := hid (by rw [← HBO.out, HX0'.out]; have : x0 = 48 := UInt8.toNat_inj.1 (by rw [hz]; rfl); simp [this]; omega)
                have hzi : (x0.toNat : Int) = 48 := by omega
                have hzb : ((x0.toNat : Int) != 48) = false := by simp; omega
                have hz1 : decide ((x0.toNat : Int) = 48) = true := decide_eq_true (by omega)
                have hz2 : ((x0.toNat : Int) == 48) = true := by simp; omega
                go_wp2
                go_quiet (fail)
                go_wp2
                refine bodyPost_ret (results_t3 Tryz.results70 _ _ _) rfl ?_
                exact ⟨by rw [HVE.out, HBB.out]; rfl, HBQ.out _⟩
              · have HBB : Hid (bo = true) := hid (by rw [← HBO.out, HX0'.out]; have : x0 ≠ 48 := (fun e => hz (by rw [e]; rfl)); simp [this]; omega)
                have hzi : ¬ (x0.toNat : Int) = 48 := by omega
                have hzb : ((x0.toNat : Int) != 48) = true := by simp; omega
                have hz1 : decide ((x0.toNat : Int) = 48) = false := decide_eq_false (by omega)
                have hz2 : ((x0.toNat : Int) == 48) = false := by simp; omega
                go_wp2
                go_quiet (fail)
                go_wp2
                refine bodyPost_ret (results_t3 Tryz.results70 _ _ _) rfl ?_
                exact ⟨by rw [HVE.out, HBB.out]; rfl, HBQ.out _⟩
          · have hxi : ¬ (48 : Int) ≤ (x.toNat : Int) := by omega
            clear hnd
            rcases (by omega : k = 0 ∨ k = 1 ∨ (2 ≤ k ∧ k < 10)) with h0 | h1 | h2
            · have HBB : Hid (bo = false) := hid (by rw [← HBO.out]; simp; omega)
              have hk0 : ¬ (0 : Int) < (k : Int) := by omega
              have hd0 : decide (0 < k) = false := decide_eq_false (by omega)
              clear h0
              go_wp2
              go_quiet (fail)
              go_wp2
              refine bodyPost_ret (results_t3 Tryz.results70 _ _ _) rfl ?_
              exact ⟨by rw [HVE.out, HBB.out]; rfl, HBQ.out _⟩
            · have HBB : Hid (bo = true) := hid (by rw [← HBO.out]; simp; omega)
              have hk0 : (0 : Int) < (k : Int) := by omega
              have hd0 : decide (0 < k) = true := decide_eq_true (by omega)
              have hk10j : (k : Int) < 10 := by omega
              have hd10 : decide (k < 10) = true := decide_eq_true (by omega)
              have hk1 : ((k : Int) == 1) = true := by simp; omega
              have hd1 : decide (k = 1) = true := decide_eq_true (by omega)
              have hd1i : decide ((k : Int) = 1) = true := decide_eq_true (by omega)
              clear h1
              go_wp2
              go_quiet (fail)
              go_wp2
              refine bodyPost_ret (results_t3 Tryz.results70 _ _ _) rfl ?_
              exact ⟨by rw [HVE.out, HBB.out]; rfl, HBQ.out _⟩
            · have hk0 : (0 : Int) < (k : Int) := by omega
              have hd0 : decide (0 < k) = true := decide_eq_true (by omega)
              have hk10j : (k : Int) < 10 := by omega
              have hd10 : decide (k < 10) = true := decide_eq_true (by omega)
              have hk1 : ¬ (k : Int) = 1 := by omega
              have hk1b : ((k : Int) == 1) = false := by simp; omega
              have hd1 : decide (k = 1) = false := decide_eq_false (by omega)
              have hd1i : decide ((k : Int) = 1) = false := decide_eq_false (by omega)
              obtain ⟨x0, HX0'⟩ : ∃ x, Hid (s.getD 0 0 = x) := ⟨_, rfl⟩
              have hx0 : ∀ h : 0 < S.size, S[0]'h = x0 := fun h => by rw [HX0.out h]; exact HX0'.out
              have hn0 : 0 < n := by omega
              by_cases hz : x0.toNat = 48
              · have HBB : Hid (bo = false) := hid (by rw [← HBO.out, HX0'.out]; have : x0 = 48 := UInt8.toNat_inj.1 (by rw [hz]; rfl); simp [this]; omega)
                have hzi : (x0.toNat : Int) = 48 := by omega
                have hzb : ((x0.toNat : Int) != 48) = false := by simp; omega
                have hz1 : decide ((x0.toNat : Int) = 48) = true := decide_eq_true (by omega)
                have hz2 : ((x0.toNat : Int) == 48) = true := by simp; omega
                go_wp2
                go_quiet (fail)
                go_wp2
                refine bodyPost_ret (results_t3 Tryz.results70 _ _ _) rfl ?_
                exact ⟨by rw [HVE.out, HBB.out]; rfl, HBQ.out _⟩
              · have HBB : Hid (bo = true) := hid (by rw [← HBO.out, HX0'.out]; have : x0 ≠ 48 := (fun e => hz (by rw [e]; rfl)); simp [this]; omega)
                have hzi : ¬ (x0.toNat : Int) = 48 := by omega
                have hzb : ((x0.toNat : Int) != 48) = true := by simp; omega
                have hz1 : decide ((x0.toNat : Int) = 48) = false := decide_eq_false (by omega)
                have hz2 : ((x0.toNat : Int) == 48) = false := by simp; omega
                go_wp2
                go_quiet (fail)
                go_wp2
                refine bodyPost_ret (results_t3 Tryz.results70 _ _ _) rfl ?_
                exact ⟨by rw [HVE.out, HBB.out]; rfl, HBQ.out _⟩
        · have hk10i : ¬ (k : Int) < 10 := by omega
          obtain ⟨x, HX⟩ : ∃ x, Hid (s.getD k 0 = x) := ⟨_, rfl⟩
          have hx : ∀ h : k < S.size, S[k]'h = x := fun h => by rw [HIX.out k h]; exact HX.out
          by_cases h48 : (48 : Int) ≤ (x.toNat : Int)
          · by_cases h57 : (x.toNat : Int) ≤ 57
            · have HBB : Hid (bo = false) := hid (by rw [← HBO.out]; simp; omega)
              have hk0 : (0 : Int) < (k : Int) := by omega
              have hd0 : decide (0 < k) = true := decide_eq_true (by omega)
              have hk10j : ¬ (k : Int) < 10 := by omega
              have hd10 : decide (k < 10) = false := decide_eq_false (by omega)
              have hd10i : decide ((k : Int) < 10) = false := decide_eq_false (by omega)
              go_wp2
              go_quiet (fail)
              go_wp2
              refine bodyPost_ret (results_t3 Tryz.results70 _ _ _) rfl ?_
              exact ⟨by rw [HVE.out, HBB.out]; rfl, HBQ.out _⟩
            · have HBB : Hid (bo = false) := hid (by rw [← HBO.out]; simp; omega)
              have hk0 : (0 : Int) < (k : Int) := by omega
              have hd0 : decide (0 < k) = true := decide_eq_true (by omega)
              have hk10j : ¬ (k : Int) < 10 := by omega
              have hd10 : decide (k < 10) = false := decide_eq_false (by omega)
              have hd10i : decide ((k : Int) < 10) = false := decide_eq_false (by omega)
              go_wp2
              go_quiet (fail)
              go_wp2
              refine bodyPost_ret (results_t3 Tryz.results70 _ _ _) rfl ?_
              exact ⟨by rw [HVE.out, HBB.out]; rfl, HBQ.out _⟩
          · skip
            have HBB : Hid (bo = false) := hid (by rw [← HBO.out]; simp; omega)
            have hk0 : (0 : Int) < (k : Int) := by omega
            have hd0 : decide (0 < k) = true := decide_eq_true (by omega)
            have hk10j : ¬ (k : Int) < 10 := by omega
            have hd10 : decide (k < 10) = false := decide_eq_false (by omega)
            have hd10i : decide ((k : Int) < 10) = false := decide_eq_false (by omega)
            go_wp2
            go_quiet (fail)
            go_wp2
            refine bodyPost_ret (results_t3 Tryz.results70 _ _ _) rfl ?_
            exact ⟨by rw [HVE.out, HBB.out]; rfl, HBQ.out _⟩
      · have hki : ¬ (k : Int) < (n : Int) := by omega
        rcases (by omega : k = 0 ∨ k = 1 ∨ (2 ≤ k ∧ k < 10) ∨ 10 ≤ k) with h0 | h1 | h2 | h3
        · have HBB : Hid (bo = false) := hid (by rw [← HBO.out]; simp; omega)
          have hk0 : ¬ (0 : Int) < (k : Int) := by omega
          have hd0 : decide (0 < k) = false := decide_eq_false (by omega)
          clear h0
          go_wp2
          go_quiet (fail)
          go_wp2
          refine bodyPost_ret (results_t3 Tryz.results70 _ _ _) rfl ?_
          exact ⟨by rw [HVE.out, HBB.out]; rfl, HBQ.out _⟩
        · have HBB : Hid (bo = true) := hid (by rw [← HBO.out]; simp; omega)
          have hk0 : (0 : Int) < (k : Int) := by omega
          have hd0 : decide (0 < k) = true := decide_eq_true (by omega)
          have hk10j : (k : Int) < 10 := by omega
          have hd10 : decide (k < 10) = true := decide_eq_true (by omega)
          have hk1 : ((k : Int) == 1) = true := by simp; omega
          have hd1 : decide (k = 1) = true := decide_eq_true (by omega)
          have hd1i : decide ((k : Int) = 1) = true := decide_eq_true (by omega)
          clear h1
          go_wp2
          go_quiet (fail)
          go_wp2
          refine bodyPost_ret (results_t3 Tryz.results70 _ _ _) rfl ?_
          exact ⟨by rw [HVE.out, HBB.out]; rfl, HBQ.out _⟩
        · have hk0 : (0 : Int) < (k : Int) := by omega
          have hd0 : decide (0 < k) = true := decide_eq_true (by omega)
          have hk10j : (k : Int) < 10 := by omega
          have hd10 : decide (k < 10) = true := decide_eq_true (by omega)
          have hk1 : ¬ (k : Int) = 1 := by omega
          have hk1b : ((k : Int) == 1) = false := by simp; omega
          have hd1 : decide (k = 1) = false := decide_eq_false (by omega)
          have hd1i : decide ((k : Int) = 1) = false := decide_eq_false (by omega)
          obtain ⟨x0, HX0'⟩ : ∃ x, Hid (s.getD 0 0 = x) := ⟨_, rfl⟩
          have hx0 : ∀ h : 0 < S.size, S[0]'h = x0 := fun h => by rw [HX0.out h]; exact HX0'.out
          have hn0 : 0 < n := by omega
          by_cases hz : x0.toNat = 48
          · have HBB : Hid (bo = false) := hid (by rw [← HBO.out, HX0'.out]; have : x0 = 48 := UInt8.toNat_inj.1 (by rw [hz]; rfl); simp [this]; omega)
            have hzi : (x0.toNat : Int) = 48 := by omega
            have hzb : ((x0.toNat : Int) != 48) = false := by simp; omega
            have hz1 : decide ((x0.toNat : Int) = 48) = true := decide_eq_true (by omega)
            have hz2 : ((x0.toNat : Int) == 48) = true := by simp; omega
            go_wp2
            go_quiet (fail)
            go_wp2
            refine bodyPost_ret (results_t3 Tryz.results70 _ _ _) rfl ?_
            exact ⟨by rw [HVE.out, HBB.out]; rfl, HBQ.out _⟩
          · have HBB : Hid (bo = true) := hid (by rw [← HBO.out, HX0'.out]; have : x0 ≠ 48 := (fun e => hz (by rw [e]; rfl)); simp [this]; omega)
            have hzi : ¬ (x0.toNat : Int) = 48 := by omega
            have hzb : ((x0.toNat : Int) != 48) = true := by simp; omega
            have hz1 : decide ((x0.toNat : Int) = 48) = false := decide_eq_false (by omega)
            have hz2 : ((x0.toNat : Int) == 48) = false := by simp; omega
            go_wp2
            go_quiet (fail)
            go_wp2
            refine bodyPost_ret (results_t3 Tryz.results70 _ _ _) rfl ?_
            exact ⟨by rw [HVE.out, HBB.out]; rfl, HBQ.out _⟩
        · have HBB : Hid (bo = false) := hid (by rw [← HBO.out]; simp; omega)
          have hk0 : (0 : Int) < (k : Int) := by omega
          have hd0 : decide (0 < k) = true := decide_eq_true (by omega)
          have hk10j : ¬ (k : Int) < 10 := by omega
          have hd10 : decide (k < 10) = false := decide_eq_false (by omega)
          have hd10i : decide ((k : Int) < 10) = false := decide_eq_false (by omega)
          go_wp2
          go_quiet (fail)
          go_wp2
          refine bodyPost_ret (results_t3 Tryz.results70 _ _ _) rfl ?_
          exact ⟨by rw [HVE.out, HBB.out]; rfl, HBQ.out _⟩
end Go.Proofs.YtmpjapcijjjlbaaGreatDoor
namespace Go.Proofs.YtmpjapcijjjlbaaGreatDoor
set_option linter.unusedVariables false
set_option linter.unusedSimpArgs false
theorem wrd_app (x r : Str) : wrd (x ++ r) x = (r, true) := by
  unfold wrd
  rw [List.take_left, if_pos rfl, List.drop_left]
theorem wrd_ok {s x : Str} (h : (wrd s x).2 = true) : s = x ++ (wrd s x).1 := by
  unfold wrd at h ⊢
  split
  · rename_i e
    conv => lhs; rw [← List.take_append_drop x.length s, e]
  · rename_i e
    rw [if_neg e] at h
    cases h
theorem wrd_no {s x : Str} (h : (wrd s x).2 = false) : wrd s x = (s, false) ∧ ¬ s.take x.length = x := by
  unfold wrd at h ⊢
  split
  · rename_i e
    rw [if_pos e] at h
    cases h
  · rename_i e
    exact ⟨rfl, e⟩
theorem dgv_dec : ∀ (n : Nat) (l : Str), l.length = n + 1 → (∀ c ∈ l, isD c = true) → (n = 0 ∨ l.getD 0 0 ≠ 48) → Lib.decDigits (dgv l) = l ∧ (l.getD 0 0 ≠ 48 → 0 < dgv l) := by
  intro n
  induction n with
  | zero =>
    intro l hl hd _
    match l, hl with
    | [c], _ =>
      have h := hd c (by simp)
      unfold isD at h
      simp at h
      have e : dgv [c] = c.toNat - 48 := by simp [dgv]
      rw [e]
      constructor
      · rw [Lib.decDigits, dif_pos (by omega), show 48 + (c.toNat - 48) = c.toNat by omega]
        simp
      · intro hc
        have : c.toNat ≠ 48 := fun e2 => hc (UInt8.toNat_inj.1 (by simpa using e2))
        omega
  | succ n ih =>
    intro l hl hd h0
    rcases List.eq_nil_or_concat l with h | ⟨l', c, h⟩
    · subst h; simp at hl
    · subst h
      simp only [List.concat_eq_append] at hl hd h0 ⊢
      rw [List.length_append] at hl
      have hl' : l'.length = n + 1 := by simpa using hl
      have hg : (l' ++ [c]).getD 0 0 = l'.getD 0 0 := by
        rw [List.getD_eq_getElem?_getD, List.getD_eq_getElem?_getD, List.getElem?_append_left (by omega)]
      rw [hg] at h0 ⊢
      have h48 : l'.getD 0 0 ≠ 48 := by
        rcases h0 with h | h
        · omega
        · exact h
      obtain ⟨e1, e2⟩ := ih l' hl' (fun x hx => hd x (by simp [hx])) (.inr h48)
      have hp := e2 h48
      have h := hd c (by simp)
      unfold isD at h
      simp at h
      rw [dgv_snoc]
      refine ⟨?_, fun _ => by omega⟩
      rw [Lib.decDigits, dif_neg (by omega), show (dgv l' * 10 + (c.toNat - 48)) / 10 = dgv l' by omega, show (dgv l' * 10 + (c.toNat - 48)) % 10 = c.toNat - 48 by omega, e1, show 48 + (c.toNat - 48) = c.toNat by omega]
      simp
theorem dgv_digits (s : Str) : ∀ c ∈ s.take (dgn 10 s), isD c = true := fun c hc => by
  obtain ⟨i, hi, e⟩ := List.getElem_of_mem hc
  have h1 := dgn_le 10 s
  rw [List.length_take] at hi
  have := dgn_at 10 s i (by omega)
  rw [List.getD_eq_getElem?_getD, List.getElem?_eq_getElem (by omega)] at this
  rw [← e, List.getElem_take]
  exact this
theorem nbr_ok {s : Str} (h : (nbr s).2.2 = true) : s = Lib.decDigits (nbr s).1 ++ (nbr s).2.1 ∧ (nbr s).1 < 10 ^ 9 := by
  unfold nbr at h ⊢
  simp only [Bool.and_eq_true, Bool.or_eq_true, decide_eq_true_eq] at h ⊢
  obtain ⟨⟨h1, h2⟩, h3⟩ := h
  have hl := dgn_le 10 s
  have hd := dgv_digits s
  have hlen : (s.take (dgn 10 s)).length = dgn 10 s := by rw [List.length_take]; omega
  have hg : (s.take (dgn 10 s)).getD 0 0 = s.getD 0 0 := by
    rw [List.getD_eq_getElem?_getD, List.getD_eq_getElem?_getD, List.getElem?_take, if_pos h1]
  have e := (dgv_dec (dgn 10 s - 1) (s.take (dgn 10 s)) (by omega) hd (by rw [hg]; rcases h3 with h | h; exact .inl (by omega); exact .inr h)).1
  refine ⟨by rw [e, List.take_append_drop], ?_⟩
  have h4 := dgv_le _ hd
  rw [hlen] at h4
  exact Nat.lt_of_lt_of_le h4 (Nat.pow_le_pow_right (by omega) (by omega))
theorem dgn_app : ∀ (k : Nat) (l r : Str), (∀ c ∈ l, isD c = true) → l.length ≤ k → (∀ c, r.head? = some c → isD c = false) → (l.length = k → True) → dgn k (l ++ r) = l.length
  | 0, [], r, _, _, _, _ => by cases r <;> rfl
  | 0, _ :: _, r, _, h, _, _ => by simp at h
  | k + 1, [], r, _, _, hr, _ => by
    cases r with
    | nil => rfl
    | cons c t =>
      rw [List.nil_append, dgn, hr c rfl]
      rfl
  | k + 1, c :: l, r, hd, hl, hr, _ => by
    rw [List.cons_append, dgn, if_pos (hd c (by simp)), dgn_app k l r (fun x hx => hd x (by simp [hx])) (by simpa using hl) hr (fun _ => trivial), List.length_cons]
theorem dec_len (n : Nat) : ∀ k, n < 10 ^ k → 0 < k → (Lib.decDigits n).length ≤ k := by
  induction n using Nat.strongRecOn with
  | _ n ih =>
    intro k hk h0
    rw [Lib.decDigits]
    split
    · simp; omega
    · rename_i h10
      rw [List.length_append]
      rcases Nat.lt_or_ge 1 k with h1 | h1
      · have e : 10 ^ k = 10 ^ (k - 1) * 10 := by rw [← Nat.pow_succ]; congr 1; omega
        have := ih (n / 10) (by omega) (k - 1) (by rw [e] at hk; omega) (by omega)
        simp
        omega
      · have : k = 1 := by omega
        subst this
        simp at hk
        omega
theorem dec_isD (n : Nat) : ∀ c ∈ Lib.decDigits n, isD c = true := fun c hc => by
  have := dec_dig n c hc
  unfold isD
  simp
  omega
theorem dgv_of (n : Nat) : dgv (Lib.decDigits n) = n := by
  induction n using Nat.strongRecOn with
  | _ n ih =>
    rw [Lib.decDigits]
    split
    · rename_i h
      have : (UInt8.ofNat (48 + n)).toNat = 48 + n := by rw [UInt8.toNat_ofNat']; omega
      simp [dgv]
      omega
    · rename_i h
      rw [dgv_snoc, ih (n / 10) (by omega)]
      have : (UInt8.ofNat (48 + n % 10)).toNat = 48 + n % 10 := by rw [UInt8.toNat_ofNat']; omega
      omega
theorem dec_lead (n : Nat) : (Lib.decDigits n).length = 1 ∨ (Lib.decDigits n).getD 0 0 ≠ 48 := by
  induction n using Nat.strongRecOn with
  | _ n ih =>
    rw [Lib.decDigits]
    split
    · left; rfl
    · rename_i h
      right
      have hne := dec_ne (n / 10)
      have hl : 0 < (Lib.decDigits (n / 10)).length := List.length_pos_iff.2 hne
      have hg : (Lib.decDigits (n / 10) ++ [UInt8.ofNat (48 + n % 10)]).getD 0 0 = (Lib.decDigits (n / 10)).getD 0 0 := by
        rw [List.getD_eq_getElem?_getD, List.getD_eq_getElem?_getD, List.getElem?_append_left hl]
      rw [hg]
      rcases ih (n / 10) (by omega) with h1 | h1
      · have h10 : n / 10 < 10 := by
          rcases Nat.lt_or_ge (n / 10) 10 with h2 | h2
          · exact h2
          · exfalso
            rw [Lib.decDigits, dif_neg (by omega), List.length_append] at h1
            have h3 := List.length_pos_iff.2 (dec_ne (n / 10 / 10))
            have h4 : ([UInt8.ofNat (48 + n / 10 % 10)] : Str).length = 1 := rfl
            omega
        rw [Lib.decDigits, dif_pos h10]
        intro e
        have e2 := congrArg UInt8.toNat e
        have : (UInt8.ofNat (48 + n / 10)).toNat = 48 + n / 10 := by rw [UInt8.toNat_ofNat']; omega
        simp only [List.getD_cons_zero] at e2
        rw [this] at e2
        have : (48 : UInt8).toNat = 48 := rfl
        omega
      · exact h1
theorem nbr_write (n : Nat) (r : Str) (hn : n < 10 ^ 9) (hr : ∀ c, r.head? = some c → isD c = false) : nbr (Lib.decDigits n ++ r) = (n, r, true) := by
  have hl := dec_len n 9 hn (by omega)
  have h0 : 0 < (Lib.decDigits n).length := List.length_pos_iff.2 (dec_ne n)
  have hd := dgn_app 10 (Lib.decDigits n) r (dec_isD n) (by omega) hr (fun _ => trivial)
  unfold nbr
  rw [hd, List.take_left, List.drop_left, dgv_of]
  have hg : (Lib.decDigits n ++ r).getD 0 0 = (Lib.decDigits n).getD 0 0 := by
    rw [List.getD_eq_getElem?_getD, List.getD_eq_getElem?_getD, List.getElem?_append_left h0]
  rw [hg]
  refine Prod.ext rfl (Prod.ext rfl ?_)
  simp only [Bool.and_eq_true, Bool.or_eq_true, decide_eq_true_eq]
  exact ⟨⟨h0, by omega⟩, dec_lead n⟩
end Go.Proofs.YtmpjapcijjjlbaaGreatDoor
