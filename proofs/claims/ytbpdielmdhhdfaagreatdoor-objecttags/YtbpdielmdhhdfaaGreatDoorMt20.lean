import Derived.Test.YtbpdielmdhhdfaaGreatDoorMt19
import Derived.Test.YtbpdielmdhhdfaaGreatDoorMt17
import Derived.Test.YtbpdielmdhhdfaaGreatDoorMt18
/- Numbers in a person's text. -/
namespace Go.Proofs.YtbpdielmdhhdfaaGreatDoor
set_option linter.unusedVariables false
set_option linter.unusedSimpArgs false
theorem ofNat_toNat48 (m : Nat) (h : m < 10) : (UInt8.ofNat (48 + m)).toNat = 48 + m := by rw [UInt8.toNat_ofNat']; omega
theorem dig_val (n : Nat) : valN (Lib.decDigits n) = n ∧ (∀ x ∈ Lib.decDigits n, digS x) ∧ 1 ≤ (Lib.decDigits n).length ∧ (1 ≤ n → (Lib.decDigits n)[0]? ≠ some 48) := by
  induction n using Nat.strongRecOn with
  | _ n ih =>
    by_cases h : n < 10
    · have e : Lib.decDigits n = [UInt8.ofNat (48 + n)] := by rw [Lib.decDigits, dif_pos h]
      have hx := ofNat_toNat48 n h
      rw [e]
      refine ⟨?_, ?_, by simp, ?_⟩
      · simp only [valN, List.foldl_cons, List.foldl_nil, hx]; omega
      · intro x hx2
        have : x = UInt8.ofNat (48 + n) := by simpa using hx2
        subst this
        unfold digS
        omega
      · intro h1 h2
        have h3 : UInt8.ofNat (48 + n) = 48 := by simpa using h2
        rw [h3] at hx
        have : (48 : UInt8).toNat = 48 := rfl
        omega
    · have e : Lib.decDigits n = Lib.decDigits (n / 10) ++ [UInt8.ofNat (48 + n % 10)] := by conv => lhs; rw [Lib.decDigits, dif_neg h]
      have hx := ofNat_toNat48 (n % 10) (by omega)
      obtain ⟨i1, i2, i3, i4⟩ := ih (n / 10) (by omega)
      rw [e]
      refine ⟨?_, ?_, by simp, ?_⟩
      · rw [valN_snoc, i1, hx]; omega
      · intro x hx2
        rcases List.mem_append.1 hx2 with h2 | h2
        · exact i2 x h2
        · have : x = UInt8.ofNat (48 + n % 10) := by simpa using h2
          subst this
          unfold digS
          omega
      · intro _
        rw [List.getElem?_append_left (by omega)]
        exact i4 (by omega)
theorem num_dig {t : Nat} (ht : t ≤ 1099511627776) {v : Int} (h : NuP (Lib.decDigits t) v) : v = t := by
  obtain ⟨d1, d2, d3, d4⟩ := dig_val t
  have hl := dig_len40 t ht
  rcases h with ⟨_, h⟩ | ⟨h, _⟩
  · rw [h, d1]
  · refine absurd ⟨d3, by omega, ?_, d2⟩ h
    rintro ⟨h1, h2⟩
    refine d4 ?_ h2
    rcases Nat.eq_zero_or_pos t with rfl | h3
    · rw [show Lib.decDigits 0 = [48] from by rw [Lib.decDigits]; rfl] at h1
      simp at h1
    · exact h3
theorem num_two {k : Nat} (hk : k < 100) {v : Int} (h : NuP (49 :: two k) v) : v = 100 + k := by
  have h1 := ofNat_toNat48 (k / 10) (by omega)
  have h2 := ofNat_toNat48 (k % 10) (by omega)
  have e : valN (49 :: two k) = 100 + k := by
    simp only [valN, two, List.foldl_cons, List.foldl_nil, h1, h2]
    have : (49 : UInt8).toNat = 49 := rfl
    rw [this]
    omega
  rcases h with ⟨_, h⟩ | ⟨h, _⟩
  · rw [h, e]; omega
  · refine absurd ⟨by simp, by simp [two], ?_, ?_⟩ h
    · rintro ⟨_, h3⟩
      simp at h3
    · intro x hx
      simp only [two, List.mem_cons, List.not_mem_nil, or_false] at hx
      unfold digS
      rcases hx with rfl | rfl | rfl
      · decide
      · omega
      · omega
/-- What a text of three signs says: nothing, or less than a thousand. -/
theorem num_three {l : List UInt8} (hl : l.length = 3) {v : Int} (h : NuP l v) : v = -1 ∨ (0 ≤ v ∧ v < 1000) := by
  rcases h with ⟨hg, rfl⟩ | ⟨_, h⟩
  · right
    have h1 := valN_lt l 3 (by omega) (fun x hx => hg.2.2.2 x (List.mem_of_mem_take hx))
    rw [List.take_of_length_le (by omega)] at h1
    omega
  · exact .inl h
theorem num_any {l : List UInt8} {v : Int} (h : NuP l v) : -1 ≤ v ∧ v < 1000000000000000 := by
  rcases h with ⟨hg, rfl⟩ | ⟨_, h⟩
  · have h1 := valN_lt l l.length (Nat.le_refl _) (fun x hx => hg.2.2.2 x (List.mem_of_mem_take hx))
    rw [List.take_of_length_le (Nat.le_refl _)] at h1
    have h2 : 10 ^ l.length ≤ 10 ^ 15 := Nat.pow_le_pow_right (by decide) hg.2.1
    omega
  · omega
/-- A person, read from its parts, is the person. -/
theorem per_back (q : Per) (hq : okP q) (z : Int) (hz : z = ((100 + (zh q : Int)) - 100) * 60 + (100 + (zm q : Int)) - 100) (p : Per) (h1 : p.name = q.name) (h2 : p.mail = q.mail) (h3 : p.time = (q.time.toNat : Int)) (h4 : zs q = 45 → p.zone = -z) (h5 : zs q ≠ 45 → p.zone = z) : p = q := by
  have k1 : q.zone < 0 → p.zone = -z := fun h => h4 (by unfold zs; rw [if_pos h])
  have k2 : ¬ q.zone < 0 → p.zone = z := fun h => h5 (by unfold zs; rw [if_neg h]; decide)
  clear h4 h5
  unfold zh zm at hz
  obtain ⟨nm, ml, tm, zn⟩ := q
  obtain ⟨a, b, c, d⟩ := p
  obtain ⟨_, _, ⟨t1, t2⟩, z1, z2⟩ := hq
  simp only at h1 h2 h3 hz k1 k2 t1 t2 z1 z2
  subst h1
  subst h2
  have e3 : c = tm := by omega
  have e4 : d = zn := by
    by_cases hn : zn < 0
    · rw [k1 hn]; omega
    · rw [k2 hn]; omega
  rw [e3, e4]
end Go.Proofs.YtbpdielmdhhdfaaGreatDoor
/- The document's side of chapter 3: a tag's name; decimal numbers. -/
namespace Go.Proofs.YtbpdielmdhhdfaaGreatDoor
open Go.RowKit
set_option linter.unusedVariables false
set_option linter.unusedSimpArgs false
/-- 3.5: a sign of a tag's name. -/
def okS (c : Int) : Prop := (97 ≤ c ∧ c ≤ 122) ∨ (65 ≤ c ∧ c ≤ 90) ∨ (48 ≤ c ∧ c ≤ 57) ∨ c = 46 ∨ c = 95 ∨ c = 45 ∨ c = 47
set_option maxRecDepth 100000 in
theorem okS_iff (x : UInt8) : okS (x.toNat : Int) ↔ x ∈ signs := by
  have key : ∀ n : Nat, n < 256 → (okS (n : Int) ↔ UInt8.ofNat n ∈ signs) := by
    unfold okS
    decide
  have := key x.toNat x.toNat_lt
  rwa [UInt8.ofNat_toNat] at this
set_option maxRecDepth 20000 in
set_option maxHeartbeats 1000000 in
theorem isTagR_any (s : List UInt8) (w : World) : Calls Tryz.prog 66 #[.string ⟨s.toArray⟩] w fun e w' => BIs (okN s) e ∧ w' = w := by
  obtain ⟨S, HS⟩ : ∃ S : ByteArray, Hid (S = ⟨s.toArray⟩) := ⟨_, rfl⟩
  obtain ⟨n, HN⟩ : ∃ n, Hid (s.length = n) := ⟨_, rfl⟩
  have hsz : S.size = n := by rw [HS.out, ← HN.out]; simp [ByteArray.size]
  rw [← HS.out]
  by_cases h1 : 1 ≤ n
  · have h1i : ¬ (n : Int) < 1 := by omega
    by_cases h : n ≤ 60
    · have hi : ¬ (60 : Int) < (n : Int) := by omega
      go_enter Tryz.func66, Tryz.ntmps66
      go_wp2
      go_loopg [3, 4, 5] n (fun g i c0 l0 wr => ∃ j : Nat, j ≤ n ∧ g = n - j ∧ i = .int .i64 j ∧ Hid (∀ x ∈ s.take j, okS (x.toNat : Int)) ∧ Hid (wr = w))
      case atStart => exact ⟨0, by omega, rfl, rfl, hid (by simp), hid rfl⟩
      case round =>
        obtain ⟨j, hj, hk, rfl, HT, HW⟩ := hrel
        by_cases hlt : j < n
        · have hlti : (j : Int) < (n : Int) := by omega
          obtain ⟨x, hx⟩ : ∃ x, s[j]? = some x := ⟨_, List.getElem?_eq_getElem (by rw [HN.out]; exact hlt)⟩
          obtain ⟨c, HC⟩ : ∃ c, Hid ((x.toNat : Int) = c) := ⟨_, rfl⟩
          have HX : Hid (s[j]? = some x) := hx
          have hix : ∀ w1 : World, (Instr.index 9 (.string S) (.int .i64 j)).run Tryz.prog w1 = .ok (.int .u8 c) w1 := fun w1 => by rw [HS.out, ← HC.out]; exact index_txt s j w1 x HX.out
          clear hx
          have HGO : Hid (okS c → ∀ y ∈ s.take (j + 1), okS (y.toNat : Int)) := fun ho => by
            rw [take_snoc8 s j x HX.out]
            intro y hy
            rcases List.mem_append.1 hy with hy | hy
            · exact HT.out y hy
            · have : y = x := by simpa using hy
              subst this
              rw [HC.out]
              exact ho
          have HNO : Hid (¬ okS c → ¬ okN s) := fun hno hok => hno (by rw [← HC.out, okS_iff]; exact hok.2.2 x (List.mem_of_getElem? HX.out))
          clear HC HX HT
          by_cases e1 : c = 46
          · subst e1
            go_wp2
            go_roundg (n - (j + 1))
            case measure => omega
            case rel => exact ⟨j + 1, by omega, rfl, by go_num, hid (HGO.out (by unfold okS; omega)), HW⟩
          by_cases e2 : c = 95
          · subst e2
            go_wp2
            go_roundg (n - (j + 1))
            case measure => omega
            case rel => exact ⟨j + 1, by omega, rfl, by go_num, hid (HGO.out (by unfold okS; omega)), HW⟩
          by_cases e3 : c = 45
          · subst e3
            go_wp2
            go_roundg (n - (j + 1))
            case measure => omega
            case rel => exact ⟨j + 1, by omega, rfl, by go_num, hid (HGO.out (by unfold okS; omega)), HW⟩
          by_cases e4 : c = 47
          · subst e4
            go_wp2
            go_roundg (n - (j + 1))
            case measure => omega
            case rel => exact ⟨j + 1, by omega, rfl, by go_num, hid (HGO.out (by unfold okS; omega)), HW⟩
          have f1 : (c != 46) = true := by simpa using e1
          have f2 : (c != 95) = true := by simpa using e2
          have f3 : (c != 45) = true := by simpa using e3
          have f4 : (c != 47) = true := by simpa using e4
          by_cases a1 : (97 : Int) ≤ c
          · by_cases a2 : c ≤ 122
            · have HO : Hid (okS c) := hid (by unfold okS; omega)
              go_wp2
              go_roundg (n - (j + 1))
              case measure => omega
              case rel => exact ⟨j + 1, by omega, rfl, by go_num, hid (HGO.out HO.out), HW⟩
            · have HO : Hid (¬ okN s) := HNO.out (by unfold okS; omega)
              have a3 : (65 : Int) ≤ c := by omega
              have a4 : ¬ c ≤ 90 := by omega
              have a5 : (48 : Int) ≤ c := by omega
              have a6 : ¬ c ≤ 57 := by omega
              go_wp2
              go_ret
              exact ⟨bis_false HO.out, HW.out⟩
          · by_cases a3 : (65 : Int) ≤ c
            · by_cases a4 : c ≤ 90
              · have HO : Hid (okS c) := hid (by unfold okS; omega)
                go_wp2
                go_roundg (n - (j + 1))
                case measure => omega
                case rel => exact ⟨j + 1, by omega, rfl, by go_num, hid (HGO.out HO.out), HW⟩
              · have HO : Hid (¬ okN s) := HNO.out (by unfold okS; omega)
                have a5 : (48 : Int) ≤ c := by omega
                have a6 : ¬ c ≤ 57 := by omega
                go_wp2
                go_ret
                exact ⟨bis_false HO.out, HW.out⟩
            · by_cases a5 : (48 : Int) ≤ c
              · by_cases a6 : c ≤ 57
                · have HO : Hid (okS c) := hid (by unfold okS; omega)
                  go_wp2
                  go_roundg (n - (j + 1))
                  case measure => omega
                  case rel => exact ⟨j + 1, by omega, rfl, by go_num, hid (HGO.out HO.out), HW⟩
                · have HO : Hid (¬ okN s) := HNO.out (by unfold okS; omega)
                  go_wp2
                  go_ret
                  exact ⟨bis_false HO.out, HW.out⟩
              · have HO : Hid (¬ okN s) := HNO.out (by unfold okS; omega)
                go_wp2
                go_ret
                exact ⟨bis_false HO.out, HW.out⟩
        · have hlti : ¬ (j : Int) < (n : Int) := by omega
          have HY : Hid (okN s) := hid (by
            have h3 := HT.out
            rw [List.take_of_length_le (by rw [HN.out]; omega)] at h3
            exact ⟨by rw [HN.out]; exact h1, by rw [HN.out]; exact h, fun x hx => (okS_iff x).1 (h3 x hx)⟩)
          go_wp2
          go_ret
          exact ⟨bis_true HY.out, HW.out⟩
    · have hi : (60 : Int) < (n : Int) := by omega
      have HNO : Hid (¬ okN s) := fun ht => h (by rw [← HN.out]; exact ht.2.1)
      go_enter Tryz.func66, Tryz.ntmps66
      go_wp2
      go_ret
      exact ⟨bis_false HNO.out, rfl⟩
  · have h1i : (n : Int) < 1 := by omega
    have HNO : Hid (¬ okN s) := fun ht => h1 (by rw [← HN.out]; exact ht.1)
    go_enter Tryz.func66, Tryz.ntmps66
    go_wp2
    go_ret
    exact ⟨bis_false HNO.out, rfl⟩
set_option maxRecDepth 20000 in
theorem decimal_big (n : Nat) (hn : n ≤ 1099511627776) (w : World) : Calls Tryz.prog 38 #[.int .i64 n] w fun e w' => e = .returned (.string ⟨(Lib.decDigits n).toArray⟩) ∧ Below w.heap.size w w' := by
  by_cases h0 : n = 0
  · subst h0
    go_enter Tryz.func38, Tryz.ntmps38
    go_wp2
    go_ret
    exact ⟨by rw [Lib.decDigits]; rfl, Below.refl _ _⟩
  · have h0i : ¬ ((n : Int) == 0) = true := by simp; omega
    go_enter Tryz.func38, Tryz.ntmps38
    go_wp2_with fail
    go_loopg [0, 3] n (fun g v u wr => ∃ (m : Nat) (s : List UInt8) (S : ByteArray), v = .int .i64 m ∧ u = .string S ∧ g = m ∧ m ≤ 1099511627776 ∧ S.size ≤ 13 ∧ Hid (m * 10 ^ S.size ≤ n) ∧ Hid (S = ⟨s.toArray⟩) ∧ Hid (Dl n m s) ∧ Hid (Below w.heap.size w wr))
    case atStart => exact ⟨n, [], ⟨#[]⟩, rfl, rfl, rfl, hn, by decide, hid (by show n * 10 ^ 0 ≤ n; omega), rfl, hid (by unfold Dl; rw [if_neg h0]; simp), hid (Below.refl _ _)⟩
    case round =>
      obtain ⟨m, s, S, rfl, rfl, hk, hm4, hS, HM, HS, HD, HB⟩ := hrel
      by_cases hm : 0 < m
      · have hmi : (0 : Int) < m := by omega
        obtain ⟨x, HX⟩ : ∃ x : UInt8, Hid (x = UInt8.ofNat (48 + m % 10)) := ⟨_, rfl⟩
        have hx : (48 : Int) + (m : Int) % 10 = (x.toNat : Int) := by
          rw [HX.out, UInt8.toNat_ofNat']
          omega
        have hcv : ∀ W : World, W.cell? ⟨wr.heap.size, 0, none⟩ = some (.int .u8 (x.toNat : Int)) → Sem.run Tryz.prog (convert 23 9 (.slice (some ⟨wr.heap.size, 0, none⟩) 1 1)) W = .ok (.string ⟨#[x]⟩) W := fun W hW => by
          refine run_convert_bytes_back W 23 9 5 ⟨wr.heap.size, 0, none⟩ 1 [x] Tryz.underlying23 Tryz.underlying5 Tryz.underlying9 ?_
          intro j hj
          have : j = 0 := by simpa using hj
          subst this
          simpa [Addr.add] using hW
        have hcv1 := hcv (wr.alloc (.cells #[.int .u8 (x.toNat : Int)] 5)) (by simp)
        have hSs : ¬ 9223372036854775807 < 1 + S.size := by omega
        have h1 : (⟨#[x]⟩ : ByteArray).size = 1 := rfl
        go_wp2
        have hS5 : S.size ≤ 12 := by
          rcases Nat.lt_or_ge S.size 13 with h | h
          · omega
          · have e : S.size = 13 := by omega
            have := HM.out
            rw [e] at this
            omega
        have hsz : ((⟨#[x]⟩ : ByteArray) ++ S).size = S.size + 1 := by rw [ByteArray.size_append, h1]; omega
        go_roundg (m / 10)
        case measure => omega
        case rel =>
          refine ⟨m / 10, x :: s, ⟨#[x]⟩ ++ S, by go_num, rfl, rfl, by omega, by omega, hid ?_, hid ?_, hid ?_, hid (HB.out.alloc HB.out.size _)⟩
          · rw [hsz, Nat.pow_succ]
            have := HM.out
            have h2 : m / 10 * (10 ^ S.size * 10) = m / 10 * 10 * 10 ^ S.size := by rw [Nat.mul_assoc (m / 10), Nat.mul_comm 10]
            rw [h2]
            exact Nat.le_trans (Nat.mul_le_mul_right _ (by omega)) this
          · rw [HS.out, show (⟨#[x]⟩ : ByteArray) = ⟨[x].toArray⟩ from rfl]
            exact str_add _ _
          · rw [HX.out]
            exact HD.out.next hm
      · have hmi : ¬ (0 : Int) < m := by omega
        go_wp2
        go_ret
        refine ⟨?_, HB.out⟩
        have := HD.out
        unfold Dl at this
        rw [if_pos (by omega)] at this
        rw [← this, ← HS.out]; rfl
end Go.Proofs.YtbpdielmdhhdfaaGreatDoor
