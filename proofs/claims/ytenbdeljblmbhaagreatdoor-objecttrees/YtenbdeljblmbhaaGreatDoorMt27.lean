import Derived.Test.YtenbdeljblmbhaaGreatDoorMt26
import Derived.Test.YtenbdeljblmbhaaGreatDoorMt25
import Derived.Test.YtenbdeljblmbhaaGreatDoorMt11
/- Numbers in a person's text. -/
namespace Go.Proofs.YtenbdeljblmbhaaGreatDoor
set_option linter.unusedVariables false
set_option linter.unusedSimpArgs false
theorem ofNat_toNat48 (m : Nat) (h : m < 10) : (UInt8.ofNat (48 + m)).toNat = 48 + m := by rw [UInt8.toNat_ofNat']; omega
theorem dig_val (n : Nat) : valN (Lib.decDigits n) = n ∧ (∀ x ∈ Lib.decDigits n, digS x) ∧ 1 ≤ (Lib.decDigits n).length ∧ (1 ≤ n → (Lib.decDigits n)[0]? ≠ some 48) := by
  induction n using Nat.strongRecOn with
  | _ n ih =>
    by_cases h : n < 10
    · have e : Lib.decDigits n = [UInt8.ofNat (48 + n)] := by rw [Lib.decDigits, dif_pos h]
      have hx := ofNat_toNat48 n h
      rw [e]
      refine ⟨?_, ?_, by simp, ?_⟩
      · simp only [valN, List.foldl_cons, List.foldl_nil, hx]; omega
      · intro x hx2
        have : x = UInt8.ofNat (48 + n) := by simpa using hx2
        subst this
        unfold digS
        omega
      · intro h1 h2
        have h3 : UInt8.ofNat (48 + n) = 48 := by simpa using h2
        rw [h3] at hx
        have : (48 : UInt8).toNat = 48 := rfl
        omega
    · have e : Lib.decDigits n = Lib.decDigits (n / 10) ++ [UInt8.ofNat (48 + n % 10)] := by conv => lhs; rw [Lib.decDigits, dif_neg h]
      have hx := ofNat_toNat48 (n % 10) (by omega)
      obtain ⟨i1, i2, i3, i4⟩ := ih (n / 10) (by omega)
      rw [e]
      refine ⟨?_, ?_, by simp, ?_⟩
      · rw [valN_snoc, i1, hx]; omega
      · intro x hx2
        rcases List.mem_append.1 hx2 with h2 | h2
        · exact i2 x h2
        · have : x = UInt8.ofNat (48 + n % 10) := by simpa using h2
          subst this
          unfold digS
          omega
      · intro _
        rw [List.getElem?_append_left (by omega)]
        exact i4 (by omega)
theorem num_dig {t : Nat} (ht : t ≤ 1099511627776) {v : Int} (h : NuP (Lib.decDigits t) v) : v = t := by
  obtain ⟨d1, d2, d3, d4⟩ := dig_val t
  have hl := dig_len40 t ht
  rcases h with ⟨_, h⟩ | ⟨h, _⟩
  · rw [h, d1]
  · refine absurd ⟨d3, by omega, ?_, d2⟩ h
    rintro ⟨h1, h2⟩
    refine d4 ?_ h2
    rcases Nat.eq_zero_or_pos t with rfl | h3
    · rw [show Lib.decDigits 0 = [48] from by rw [Lib.decDigits]; rfl] at h1
      simp at h1
    · exact h3
theorem num_two {k : Nat} (hk : k < 100) {v : Int} (h : NuP (49 :: two k) v) : v = 100 + k := by
  have h1 := ofNat_toNat48 (k / 10) (by omega)
  have h2 := ofNat_toNat48 (k % 10) (by omega)
  have e : valN (49 :: two k) = 100 + k := by
    simp only [valN, two, List.foldl_cons, List.foldl_nil, h1, h2]
    have : (49 : UInt8).toNat = 49 := rfl
    rw [this]
    omega
  rcases h with ⟨_, h⟩ | ⟨h, _⟩
  · rw [h, e]; omega
  · refine absurd ⟨by simp, by simp [two], ?_, ?_⟩ h
    · rintro ⟨_, h3⟩
      simp at h3
    · intro x hx
      simp only [two, List.mem_cons, List.not_mem_nil, or_false] at hx
      unfold digS
      rcases hx with rfl | rfl | rfl
      · decide
      · omega
      · omega
/-- What a text of three signs says: nothing, or less than a thousand. -/
theorem num_three {l : List UInt8} (hl : l.length = 3) {v : Int} (h : NuP l v) : v = -1 ∨ (0 ≤ v ∧ v < 1000) := by
  rcases h with ⟨hg, rfl⟩ | ⟨_, h⟩
  · right
    have h1 := valN_lt l 3 (by omega) (fun x hx => hg.2.2.2 x (List.mem_of_mem_take hx))
    rw [List.take_of_length_le (by omega)] at h1
    omega
  · exact .inl h
theorem num_any {l : List UInt8} {v : Int} (h : NuP l v) : -1 ≤ v ∧ v < 1000000000000000 := by
  rcases h with ⟨hg, rfl⟩ | ⟨_, h⟩
  · have h1 := valN_lt l l.length (Nat.le_refl _) (fun x hx => hg.2.2.2 x (List.mem_of_mem_take hx))
    rw [List.take_of_length_le (Nat.le_refl _)] at h1
    have h2 : 10 ^ l.length ≤ 10 ^ 15 := Nat.pow_le_pow_right (by decide) hg.2.1
    omega
  · omega
/-- A person, read from its parts, is the person. -/
theorem per_back (q : Per) (hq : okP q) (z : Int) (hz : z = ((100 + (zh q : Int)) - 100) * 60 + (100 + (zm q : Int)) - 100) (p : Per) (h1 : p.name = q.name) (h2 : p.mail = q.mail) (h3 : p.time = (q.time.toNat : Int)) (h4 : zs q = 45 → p.zone = -z) (h5 : zs q ≠ 45 → p.zone = z) : p = q := by
  have k1 : q.zone < 0 → p.zone = -z := fun h => h4 (by unfold zs; rw [if_pos h])
  have k2 : ¬ q.zone < 0 → p.zone = z := fun h => h5 (by unfold zs; rw [if_neg h]; decide)
  clear h4 h5
  unfold zh zm at hz
  obtain ⟨nm, ml, tm, zn⟩ := q
  obtain ⟨a, b, c, d⟩ := p
  obtain ⟨_, _, ⟨t1, t2⟩, z1, z2⟩ := hq
  simp only at h1 h2 h3 hz k1 k2 t1 t2 z1 z2
  subst h1
  subst h2
  have e3 : c = tm := by omega
  have e4 : d = zn := by
    by_cases hn : zn < 0
    · rw [k1 hn]; omega
    · rw [k2 hn]; omega
  rw [e3, e4]
end Go.Proofs.YtenbdeljblmbhaaGreatDoor
/- The document's side of chapter 3: a tag's name; decimal numbers. -/
namespace Go.Proofs.YtenbdeljblmbhaaGreatDoor
open Go.RowKit
set_option linter.unusedVariables false
set_option linter.unusedSimpArgs false
/-- 3.5: a sign of a tag's name. -/
def okS (c : Int) : Prop := (97 ≤ c ∧ c ≤ 122) ∨ (65 ≤ c ∧ c ≤ 90) ∨ (48 ≤ c ∧ c ≤ 57) ∨ c = 46 ∨ c = 95 ∨ c = 45 ∨ c = 47
set_option maxRecDepth 100000 in
theorem okS_iff (x : UInt8) : okS (x.toNat : Int) ↔ x ∈ signs := by
  have key : ∀ n : Nat, n < 256 → (okS (n : Int) ↔ UInt8.ofNat n ∈ signs) := by
    unfold okS
    decide
  have := key x.toNat x.toNat_lt
  rwa [UInt8.ofNat_toNat] at this
set_option maxRecDepth 20000 in
set_option maxHeartbeats 1000000 in
theorem isTagR_any (s : List UInt8) (w : World) : Calls Tryz.prog 66 #[.string ⟨s.toArray⟩] w fun e w' => BIs (okN s) e ∧ w' = w := by
  obtain ⟨S, HS⟩ : ∃ S : ByteArray, Hid (S = ⟨s.toArray⟩) := ⟨_, rfl⟩
  obtain ⟨n, HN⟩ : ∃ n, Hid (s.length = n) := ⟨_, rfl⟩
  have hsz : S.size = n := by rw [HS.out, ← HN.out]; simp [ByteArray.size]
  rw [← HS.out]
  by_cases h1 : 1 ≤ n
  · have h1i : ¬ (n : Int) < 1 := by omega
    by_cases h : n ≤ 60
    · have hi : ¬ (60 : Int) < (n : Int) := by omega
      go_enter Tryz.func66, Tryz.ntmps66
      go_wp2
      go_loopg [3, 4, 5] n (fun g i c0 l0 wr => ∃ j : Nat, j ≤ n ∧ g = n - j ∧ i = .int .i64 j ∧ Hid (∀ x ∈ s.take j, okS (x.toNat : Int)) ∧ Hid (wr = w))
      case atStart => exact ⟨0, by omega, rfl, rfl, hid (by simp), hid rfl⟩
      case round =>
        obtain ⟨j, hj, hk, rfl, HT, HW⟩ := hrel
        by_cases hlt : j < n
        · have hlti : (j : Int) < (n : Int) := by omega
          obtain ⟨x, hx⟩ : ∃ x, s[j]? = some x := ⟨_, List.getElem?_eq_getElem (by rw [HN.out]; exact hlt)⟩
          obtain ⟨c, HC⟩ : ∃ c, Hid ((x.toNat : Int) = c) := ⟨_, rfl⟩
          have HX : Hid (s[j]? = some x) := hx
          have hix : ∀ w1 : World, (Instr.index 9 (.string S) (.int .i64 j)).run Tryz.prog w1 = .ok (.int .u8 c) w1 := fun w1 => by rw [HS.out, ← HC.out]; exact index_txt s j w1 x HX.out
          clear hx
          have HGO : Hid (okS c → ∀ y ∈ s.take (j + 1), okS (y.toNat : Int)) := fun ho => by
            rw [take_snoc8 s j x HX.out]
            intro y hy
            rcases List.mem_append.1 hy with hy | hy
            · exact HT.out y hy
            · have : y = x := by simpa using hy
              subst this
              rw [HC.out]
              exact ho
          have HNO : Hid (¬ okS c → ¬ okN s) := fun hno hok => hno (by rw [← HC.out, okS_iff]; exact hok.2.2 x (List.mem_of_getElem? HX.out))
          clear HC HX HT
          by_cases e1 : c = 46
          · subst e1
            go_wp2
            go_roundg (n - (j + 1))
            case measure => omega
            case rel => exact ⟨j + 1, by omega, rfl, by go_num, hid (HGO.out (by unfold okS; omega)), HW⟩
          by_cases e2 : c = 95
          · subst e2
            go_wp2
            go_roundg (n - (j + 1))
            case measure => omega
            case rel => exact ⟨j + 1, by omega, rfl, by go_num, hid (HGO.out (by unfold okS; omega)), HW⟩
          by_cases e3 : c = 45
          · subst e3
            go_wp2
            go_roundg (n - (j + 1))
            case measure => omega
            case rel => exact ⟨j + 1, by omega, rfl, by go_num, hid (HGO.out (by unfold okS; omega)), HW⟩
          by_cases e4 : c = 47
          · subst e4
            go_wp2
            go_roundg (n - (j + 1))
            case measure => omega
            case rel => exact ⟨j + 1, by omega, rfl, by go_num, hid (HGO.out (by unfold okS; omega)), HW⟩
          have f1 : (c != 46) = true := by simpa using e1
          have f2 : (c != 95) = true := by simpa using e2
          have f3 : (c != 45) = true := by simpa using e3
          have f4 : (c != 47) = true := by simpa using e4
          by_cases a1 : (97 : Int) ≤ c
          · by_cases a2 : c ≤ 122
            · have HO : Hid (okS c) := hid (by unfold okS; omega)
              go_wp2
              go_roundg (n - (j + 1))
              case measure => omega
              case rel => exact ⟨j + 1, by omega, rfl, by go_num, hid (HGO.out HO.out), HW⟩
            · have HO : Hid (¬ okN s) := HNO.out (by unfold okS; omega)
              have a3 : (65 : Int) ≤ c := by omega
              have a4 : ¬ c ≤ 90 := by omega
              have a5 : (48 : Int) ≤ c := by omega
              have a6 : ¬ c ≤ 57 := by omega
              go_wp2
              go_ret
              exact ⟨bis_false HO.out, HW.out⟩
          · by_cases a3 : (65 : Int) ≤ c
            · by_cases a4 : c ≤ 90
              · have HO : Hid (okS c) := hid (by unfold okS; omega)
                go_wp2
                go_roundg (n - (j + 1))
                case measure => omega
                case rel => exact ⟨j + 1, by omega, rfl, by go_num, hid (HGO.out HO.out), HW⟩
              · have HO : Hid (¬ okN s) := HNO.out (by unfold okS; omega)
                have a5 : (48 : Int) ≤ c := by omega
                have a6 : ¬ c ≤ 57 := by omega
                go_wp2
                go_ret
                exact ⟨bis_false HO.out, HW.out⟩
            · by_cases a5 : (48 : Int) ≤ c
              · by_cases a6 : c ≤ 57
                · have HO : Hid (okS c) := hid (by unfold okS; omega)
                  go_wp2
                  go_roundg (n - (j + 1))
                  case measure => omega
                  case rel => exact ⟨j + 1, by omega, rfl, by go_num, hid (HGO.out HO.out), HW⟩
                · have HO : Hid (¬ okN s) := HNO.out (by unfold okS; omega)
                  go_wp2
                  go_ret
                  exact ⟨bis_false HO.out, HW.out⟩
              · have HO : Hid (¬ okN s) := HNO.out (by unfold okS; omega)
                go_wp2
                go_ret
                exact ⟨bis_false HO.out, HW.out⟩
        · have hlti : ¬ (j : Int) < (n : Int) := by omega
          have HY : Hid (okN s) := hid (by
            have h3 := HT.out
            rw [List.take_of_length_le (by rw [HN.out]; omega)] at h3
            exact ⟨by rw [HN.out]; exact h1, by rw [HN.out]; exact h, fun x hx => (okS_iff x).1 (h3 x hx)⟩)
          go_wp2
          go_ret
          exact ⟨bis_true HY.out, HW.out⟩
    · have hi : (60 : Int) < (n : Int) := by omega
      have HNO : Hid (¬ okN s) := fun ht => h (by rw [← HN.out]; exact ht.2.1)
      go_enter Tryz.func66, Tryz.ntmps66
      go_wp2
      go_ret
      exact ⟨bis_false HNO.out, rfl⟩
  · have h1i : (n : Int) < 1 := by omega
    have HNO : Hid (¬ okN s) := fun ht => h1 (by rw [← HN.out]; exact ht.1)
    go_enter Tryz.func66, Tryz.ntmps66
    go_wp2
    go_ret
    exact ⟨bis_false HNO.out, rfl⟩
set_option maxRecDepth 20000 in
theorem decimal_big (n : Nat) (hn : n ≤ 1099511627776) (w : World) : Calls Tryz.prog 38 #[.int .i64 n] w fun e w' => e = .returned (.string ⟨(Lib.decDigits n).toArray⟩) ∧ Below w.heap.size w w' := by
  by_cases h0 : n = 0
  · subst h0
    go_enter Tryz.func38, Tryz.ntmps38
    go_wp2
    go_ret
    exact ⟨by rw [Lib.decDigits]; rfl, Below.refl _ _⟩
  · have h0i : ¬ ((n : Int) == 0) = true := by simp; omega
    go_enter Tryz.func38, Tryz.ntmps38
    go_wp2_with fail
    go_loopg [0, 3] n (fun g v u wr => ∃ (m : Nat) (s : List UInt8) (S : ByteArray), v = .int .i64 m ∧ u = .string S ∧ g = m ∧ m ≤ 1099511627776 ∧ S.size ≤ 13 ∧ Hid (m * 10 ^ S.size ≤ n) ∧ Hid (S = ⟨s.toArray⟩) ∧ Hid (Dl n m s) ∧ Hid (Below w.heap.size w wr))
    case atStart => exact ⟨n, [], ⟨#[]⟩, rfl, rfl, rfl, hn, by decide, hid (by show n * 10 ^ 0 ≤ n; omega), rfl, hid (by unfold Dl; rw [if_neg h0]; simp), hid (Below.refl _ _)⟩
    case round =>
      obtain ⟨m, s, S, rfl, rfl, hk, hm4, hS, HM, HS, HD, HB⟩ := hrel
      by_cases hm : 0 < m
      · have hmi : (0 : Int) < m := by omega
        obtain ⟨x, HX⟩ : ∃ x : UInt8, Hid (x = UInt8.ofNat (48 + m % 10)) := ⟨_, rfl⟩
        have hx : (48 : Int) + (m : Int) % 10 = (x.toNat : Int) := by
          rw [HX.out, UInt8.toNat_ofNat']
          omega
        have hcv : ∀ W : World, W.cell? ⟨wr.heap.size, 0, none⟩ = some (.int .u8 (x.toNat : Int)) → Sem.run Tryz.prog (convert 23 9 (.slice (some ⟨wr.heap.size, 0, none⟩) 1 1)) W = .ok (.string ⟨#[x]⟩) W := fun W hW => by
          refine run_convert_bytes_back W 23 9 5 ⟨wr.heap.size, 0, none⟩ 1 [x] Tryz.underlying23 Tryz.underlying5 Tryz.underlying9 ?_
          intro j hj
          have : j = 0 := by simpa using hj
          subst this
          simpa [Addr.add] using hW
        have hcv1 := hcv (wr.alloc (.cells #[.int .u8 (x.toNat : Int)] 5)) (by simp)
        have hSs : ¬ 9223372036854775807 < 1 + S.size := by omega
        have h1 : (⟨#[x]⟩ : ByteArray).size = 1 := rfl
        go_wp2
        have hS5 : S.size ≤ 12 := by
          rcases Nat.lt_or_ge S.size 13 with h | h
          · omega
          · have e : S.size = 13 := by omega
            have := HM.out
            rw [e] at this
            omega
        have hsz : ((⟨#[x]⟩ : ByteArray) ++ S).size = S.size + 1 := by rw [ByteArray.size_append, h1]; omega
        go_roundg (m / 10)
        case measure => omega
        case rel =>
          refine ⟨m / 10, x :: s, ⟨#[x]⟩ ++ S, by go_num, rfl, rfl, by omega, by omega, hid ?_, hid ?_, hid ?_, hid (HB.out.alloc HB.out.size _)⟩
          · rw [hsz, Nat.pow_succ]
            have := HM.out
            have h2 : m / 10 * (10 ^ S.size * 10) = m / 10 * 10 * 10 ^ S.size := by rw [Nat.mul_assoc (m / 10), Nat.mul_comm 10]
            rw [h2]
            exact Nat.le_trans (Nat.mul_le_mul_right _ (by omega)) this
          · rw [HS.out, show (⟨#[x]⟩ : ByteArray) = ⟨[x].toArray⟩ from rfl]
            exact str_add _ _
          · rw [HX.out]
            exact HD.out.next hm
      · have hmi : ¬ (0 : Int) < m := by omega
        go_wp2
        go_ret
        refine ⟨?_, HB.out⟩
        have := HD.out
        unfold Dl at this
        rw [if_pos (by omega)] at this
        rw [← this, ← HS.out]; rfl
end Go.Proofs.YtenbdeljblmbhaaGreatDoor
/- The document's side of chapter 3: a person, in bytes. -/
namespace Go.Proofs.YtenbdeljblmbhaaGreatDoor
open Go.RowKit
set_option linter.unusedVariables false
set_option linter.unusedSimpArgs false
theorem enter38 (v : Value) (w : World) : (callFunc 38 #[v]).run Tryz.prog w = .ok (.enter 38 #[v]) w := by kernel_rfl
/-- What 'Text' gives. -/
def PostX (p : Per) (w : World) (e : Ending) (w' : World) : Prop := Below w.heap.size w w' ∧ ((okP p ∧ e = .returned (.tuple #[.string ⟨(perB p).toArray⟩, .bool true])) ∨ (¬ okP p ∧ e = .returned (.tuple #[.string ⟨#[]⟩, .bool false])))
set_option maxRecDepth 20000 in
set_option maxHeartbeats 2000000 in
theorem text_any (p : Per) (w : World) : Calls Tryz.prog 58 #[.agg (perV p)] w (PostX p w) := by
  obtain ⟨nm, ml, tm, zn⟩ := p
  obtain ⟨N, HNN⟩ : ∃ S : ByteArray, Hid (S = ⟨nm.toArray⟩) := ⟨_, rfl⟩
  obtain ⟨M, HMM⟩ : ∃ S : ByteArray, Hid (S = ⟨ml.toArray⟩) := ⟨_, rfl⟩
  have HN : Hid (∀ w, Calls Tryz.prog 103 #[.string N] w fun e w' => BIs (okT nm) e ∧ w' = w) := fun w => by rw [HNN.out]; exact plain_any nm w
  have HM : Hid (∀ w, Calls Tryz.prog 103 #[.string M] w fun e w' => BIs (okT ml) e ∧ w' = w) := fun w => by rw [HMM.out]; exact plain_any ml w
  obtain ⟨G, HG⟩ : ∃ G, Hid (w.heap.size = G) := ⟨_, rfl⟩
  obtain ⟨w0, HW0⟩ : ∃ w0, Hid (w.alloc (.cells #[.string N, .string M, .int .i64 tm, .int .i64 zn] 64) = w0) := ⟨_, rfl⟩
  have HB0 : Hid (Below G w w0) := hid (by rw [← HW0.out, ← HG.out]; exact (Below.refl _ w).alloc (Nat.le_refl _) _)
  have hs0 : G < w0.heap.size := by rw [← HW0.out, ← HG.out]; simp
  have HX0 : Hid (BoxP G N M tm zn w0) := hid (by rw [← HW0.out, ← HG.out]; exact ⟨by simp, by simp, by simp, by simp⟩)
  have HBE : Hid (Below w.heap.size w w0) := hid (by rw [HG.out]; exact HB0.out)
  obtain ⟨c0, c1, c2, c3⟩ := HX0.out
  unfold perV
  simp only
  rw [← HNN.out, ← HMM.out]
  go_enter Tryz.func58, Tryz.ntmps58
  go_wp2_with fail
  rw [HG.out, HW0.out]
  refine (HN.out w0).mono ?_
  rintro ev w0' ⟨hb, hw0⟩
  have hw0' := hw0.symm
  subst hw0'
  clear hw0
  rcases bis_or hb with ⟨hy1, rfl⟩ | ⟨hn1, rfl⟩
  rotate_left
  · have HOK : Hid (¬ okP ⟨nm, ml, tm, zn⟩) := fun h => hn1 h.1
    clear hn1 hb
    go_wp2_with fail
    refine (HM.out w0).mono ?_
    rintro ev w0' ⟨hb, hw0⟩
    have hw0' := hw0.symm
    subst hw0'
    clear hw0
    rcases bis_or hb with ⟨hy2, rfl⟩ | ⟨hn2, rfl⟩
    all_goals
      clear hb
      go_wp2
      go_ret2
      exact ⟨HBE.out, .inr ⟨HOK.out, rfl⟩⟩
  have HY1 : Hid (okT nm) := hy1
  clear hy1 hb
  go_wp2_with fail
  refine (HM.out w0).mono ?_
  rintro ev w0' ⟨hb, hw0⟩
  have hw0' := hw0.symm
  subst hw0'
  clear hw0
  rcases bis_or hb with ⟨hy2, rfl⟩ | ⟨hn2, rfl⟩
  rotate_left
  · have HOK : Hid (¬ okP ⟨nm, ml, tm, zn⟩) := fun h => hn2 h.2.1
    clear hn2 hb
    go_wp2
    go_ret2
    exact ⟨HBE.out, .inr ⟨HOK.out, rfl⟩⟩
  have HY2 : Hid (okT ml) := hy2
  clear hy2 hb
  by_cases t1 : tm < 0
  · have HOK : Hid (¬ okP ⟨nm, ml, tm, zn⟩) := fun h => by have h2 := h.2.2.1.1; simp only at h2; omega
    go_wp2
    go_ret2
    exact ⟨HBE.out, .inr ⟨HOK.out, rfl⟩⟩
  by_cases t2 : (1099511627776 : Int) < tm
  · have HOK : Hid (¬ okP ⟨nm, ml, tm, zn⟩) := fun h => by have h2 := h.2.2.1.2; simp only at h2; omega
    go_wp2
    go_ret2
    exact ⟨HBE.out, .inr ⟨HOK.out, rfl⟩⟩
  by_cases t3 : zn < -840
  · have HOK : Hid (¬ okP ⟨nm, ml, tm, zn⟩) := fun h => by have h2 := h.2.2.2.1; simp only at h2; omega
    go_wp2
    go_ret2
    exact ⟨HBE.out, .inr ⟨HOK.out, rfl⟩⟩
  by_cases t4 : (840 : Int) < zn
  · have HOK : Hid (¬ okP ⟨nm, ml, tm, zn⟩) := fun h => by have h2 := h.2.2.2.2; simp only at h2; omega
    go_wp2
    go_ret2
    exact ⟨HBE.out, .inr ⟨HOK.out, rfl⟩⟩
  have HOK : Hid (okP ⟨nm, ml, tm, zn⟩) := ⟨HY1.out, HY2.out, ⟨(by simp only; omega), (by simp only; omega)⟩, (by simp only; omega), (by simp only; omega)⟩
  obtain ⟨tn, rfl⟩ : ∃ tn : Nat, tm = (tn : Int) := ⟨tm.toNat, by omega⟩
  have htn : tn ≤ 1099511627776 := by omega
  obtain ⟨zz, HZZ⟩ : ∃ zz : Nat, Hid (zn.natAbs = zz) := ⟨_, rfl⟩
  have hzz : zz ≤ 840 := by have := HZZ.out; omega
  obtain ⟨hh, HHH⟩ : ∃ x : Nat, Hid (zz / 60 = x) := ⟨_, rfl⟩
  obtain ⟨mm, HMI⟩ : ∃ x : Nat, Hid (zz % 60 = x) := ⟨_, rfl⟩
  have hq1 : (zz : Int) / 60 = (hh : Int) := by have := HHH.out; omega
  have hq2 : (zz : Int) % 60 = (mm : Int) := by have := HMI.out; omega
  have hhb : hh ≤ 14 := by have := HHH.out; omega
  have hmb : mm ≤ 59 := by have := HMI.out; omega
  obtain ⟨x1, HX1⟩ : ∃ x : UInt8, Hid (x = UInt8.ofNat (48 + hh / 10)) := ⟨_, rfl⟩
  obtain ⟨x2, HX2⟩ : ∃ x : UInt8, Hid (x = UInt8.ofNat (48 + hh % 10)) := ⟨_, rfl⟩
  obtain ⟨x3, HX3⟩ : ∃ x : UInt8, Hid (x = UInt8.ofNat (48 + mm / 10)) := ⟨_, rfl⟩
  obtain ⟨x4, HX4⟩ : ∃ x : UInt8, Hid (x = UInt8.ofNat (48 + mm % 10)) := ⟨_, rfl⟩
  have hx1 : (48 : Int) + (hh : Int) / 10 = (x1.toNat : Int) := by rw [HX1.out, UInt8.toNat_ofNat']; omega
  have hx2 : (48 : Int) + (hh : Int) % 10 = (x2.toNat : Int) := by rw [HX2.out, UInt8.toNat_ofNat']; omega
  have hx3 : (48 : Int) + (mm : Int) / 10 = (x3.toNat : Int) := by rw [HX3.out, UInt8.toNat_ofNat']; omega
  have hx4 : (48 : Int) + (mm : Int) % 10 = (x4.toNat : Int) := by rw [HX4.out, UInt8.toNat_ofNat']; omega
  obtain ⟨Z, HZD⟩ : ∃ S : ByteArray, Hid (⟨#[x1, x2, x3, x4]⟩ = S) := ⟨_, rfl⟩
  have hcv : Sem.run Tryz.prog (convert 23 9 (.slice (some ⟨w0.heap.size, 0, none⟩) 4 4)) (w0.alloc (.cells #[.int .u8 (x1.toNat : Int), .int .u8 (x2.toNat : Int), .int .u8 (x3.toNat : Int), .int .u8 (x4.toNat : Int)] 5)) = .ok (.string Z) (w0.alloc (.cells #[.int .u8 (x1.toNat : Int), .int .u8 (x2.toNat : Int), .int .u8 (x3.toNat : Int), .int .u8 (x4.toNat : Int)] 5)) := by
    rw [← HZD.out]
    refine run_convert_bytes_back _ 23 9 5 ⟨w0.heap.size, 0, none⟩ 4 [x1, x2, x3, x4] Tryz.underlying23 Tryz.underlying5 Tryz.underlying9 ?_
    intro j hj
    have hj4 : j < 4 := by simpa using hj
    match j, hj4 with
    | 0, _ => simp [Addr.add]
    | 1, _ => simp [Addr.add]
    | 2, _ => simp [Addr.add]
    | 3, _ => simp [Addr.add]
  have hN60 : N.size ≤ 60 := by have := HY1.out.1; rw [HNN.out]; simpa [ByteArray.size] using this
  have hM60 : M.size ≤ 60 := by have := HY2.out.1; rw [HMM.out]; simpa [ByteArray.size] using this
  obtain ⟨D, HDD⟩ : ∃ S : ByteArray, Hid (S = ⟨(Lib.decDigits tn).toArray⟩) := ⟨_, rfl⟩
  have hD : D.size ≤ 13 := by rw [HDD.out]; have := dig_len40 tn htn; simpa [ByteArray.size] using this
  have HF : Hid (∀ W, Calls Tryz.prog 38 #[.int .i64 tn] W fun e w' => e = .returned (.string D) ∧ Below W.heap.size W w') := fun W => by rw [HDD.out]; exact decimal_big tn htn W
  obtain ⟨sg, HSG⟩ : ∃ S : ByteArray, Hid (S = if zn < 0 then ⟨#[45]⟩ else ⟨#[43]⟩) := ⟨_, rfl⟩
  have hsg1 : sg.size = 1 := by rw [HSG.out]; split <;> rfl
  have hZ4 : Z.size = 4 := by rw [← HZD.out]; rfl
  have l1 : (⟨#[32, 60]⟩ : ByteArray).size = 2 := rfl
  have l2 : (⟨#[62, 32]⟩ : ByteArray).size = 2 := rfl
  have l3 : (⟨#[32]⟩ : ByteArray).size = 1 := rfl
  obtain ⟨A1, HA1⟩ : ∃ A, N ++ ⟨#[32, 60]⟩ = A := ⟨_, rfl⟩
  have s1 : A1.size = N.size + 2 := by rw [← HA1, ByteArray.size_append, l1]
  obtain ⟨A2, HA2⟩ : ∃ A, A1 ++ M = A := ⟨_, rfl⟩
  have s2 : A2.size = A1.size + M.size := by rw [← HA2, ByteArray.size_append]
  obtain ⟨A3, HA3⟩ : ∃ A, A2 ++ ⟨#[62, 32]⟩ = A := ⟨_, rfl⟩
  have s3 : A3.size = A2.size + 2 := by rw [← HA3, ByteArray.size_append, l2]
  obtain ⟨A4, HA4⟩ : ∃ A, A3 ++ D = A := ⟨_, rfl⟩
  have s4 : A4.size = A3.size + D.size := by rw [← HA4, ByteArray.size_append]
  obtain ⟨A5, HA5⟩ : ∃ A, A4 ++ ⟨#[32]⟩ = A := ⟨_, rfl⟩
  have s5 : A5.size = A4.size + 1 := by rw [← HA5, ByteArray.size_append, l3]
  obtain ⟨A6, HA6⟩ : ∃ A, A5 ++ sg = A := ⟨_, rfl⟩
  have s6 : A6.size = A5.size + sg.size := by rw [← HA6, ByteArray.size_append]
  obtain ⟨A7, HA7⟩ : ∃ A, A6 ++ Z = A := ⟨_, rfl⟩
  have g1 : ¬ 9223372036854775807 < N.size + 2 := by omega
  have g2 : ¬ 9223372036854775807 < A1.size + M.size := by omega
  have g3 : ¬ 9223372036854775807 < A2.size + 2 := by omega
  have g4 : ¬ 9223372036854775807 < A3.size + D.size := by omega
  have g5 : ¬ 9223372036854775807 < A4.size + 1 := by omega
  have g5' : ¬ 9223372036854775807 ≤ A4.size := by omega
  have g6 : ¬ 9223372036854775807 < A5.size + 1 := by omega
  have g6' : ¬ 9223372036854775807 ≤ A5.size := by omega
  have g7 : ¬ 9223372036854775807 < A6.size + 4 := by omega
  have HE : Hid (A7 = ⟨(perB ⟨nm, ml, tn, zn⟩).toArray⟩) := hid (by
    have hz : Z = ⟨(two (zn.natAbs / 60) ++ two (zn.natAbs % 60)).toArray⟩ := by
      rw [← HZD.out, HZZ.out, HHH.out, HMI.out, HX1.out, HX2.out, HX3.out, HX4.out]
      rfl
    have hsg : sg = ⟨[if zn < 0 then 45 else 43].toArray⟩ := by rw [HSG.out]; split <;> rfl
    rw [← HA7, ← HA6, ← HA5, ← HA4, ← HA3, ← HA2, ← HA1, hz, hsg, HDD.out, HNN.out, HMM.out, show (⟨#[32, 60]⟩ : ByteArray) = ⟨[32, 60].toArray⟩ from rfl, show (⟨#[62, 32]⟩ : ByteArray) = ⟨[62, 32].toArray⟩ from rfl, show (⟨#[32]⟩ : ByteArray) = ⟨[32].toArray⟩ from rfl]
    simp only [str_add]
    simp [perB, zoneB])
  clear s1 s2 s3 s4 s5 s6
  obtain ⟨wz, HWZ⟩ : ∃ W, Hid (w0.alloc (.cells #[.int .u8 (x1.toNat : Int), .int .u8 (x2.toNat : Int), .int .u8 (x3.toNat : Int), .int .u8 (x4.toNat : Int)] 5) = W) := ⟨_, rfl⟩
  have hbz : Below w0.heap.size w0 wz := by rw [← HWZ.out]; exact (Below.refl _ _).alloc (Nat.le_refl _) _
  have hsz : G < wz.heap.size := Nat.lt_of_lt_of_le hs0 hbz.size
  have HBz : Hid (Below G w wz) := HB0.out.trans (hbz.mono (Nat.le_of_lt hs0))
  have HXz : Hid (BoxP G N M tn zn wz) := HX0.out.below hs0 hbz
  clear hbz
  have PE : Hid (∀ W, Below G w W → PostX ⟨nm, ml, tn, zn⟩ w (.returned (.tuple #[.string A7, .bool true])) W) := fun W hW => ⟨by rw [HG.out]; exact hW, .inl ⟨HOK.out, by rw [HE.out]⟩⟩
  by_cases hz : zn < 0
  · have hng : -zn = (zz : Int) := by have := HZZ.out; omega
    have hsg : sg = ⟨#[45]⟩ := by rw [HSG.out, if_pos hz]
    clear HSG HE
    subst hsg
    go_wp2_with fail
    rw [HWZ.out]
    clear hcv c0 c1 c2 c3
    refine wp_region_held_drew (S := BoxP G N M tn zn) (by kernel_rfl) (by exact HXz.out) (fun hHeld => ?_)
    have hsd : G < wz.drew.heap.size := hsz
    have HBd : Hid (Below G w wz.drew) := hid ⟨HBz.out.os, HBz.out.tape, HBz.out.output, HBz.out.size, HBz.out.block⟩
    generalize wz.drew = wd at hHeld hsd HBd ⊢
    refine takeL (i := 0) (v := ?_) rfl (by kernel_rfl) (by kernel_rfl) (by kernel_rfl) (fun _ _ _ h => h) (Or.inl ⟨by rfl, ?_⟩) hHeld ?_
    rotate_left
    · rintro w' ⟨c0, c1, c2, c3⟩; go_simp; rfl
    try simp only [Act.put, List.setIfInBounds_toArray, List.set_cons_zero, List.set_cons_succ]
    refine takeL (i := 1) (v := ?_) rfl (by kernel_rfl) (by kernel_rfl) (by kernel_rfl) (fun _ _ _ h => h) (Or.inl ⟨by rfl, ?_⟩) hHeld ?_
    rotate_left
    · rintro w' ⟨c0, c1, c2, c3⟩; go_simp; rfl
    try simp only [Act.put, List.setIfInBounds_toArray, List.set_cons_zero, List.set_cons_succ]
    refine takeL (i := 2) (v := ?_) rfl (by kernel_rfl) (by kernel_rfl) (by kernel_rfl) (fun _ _ _ h => h) (Or.inl ⟨by rfl, ?_⟩) hHeld ?_
    rotate_left
    · rintro w' ⟨c0, c1, c2, c3⟩; go_simp; rfl
    try simp only [Act.put, List.setIfInBounds_toArray, List.set_cons_zero, List.set_cons_succ]
    refine takeL (i := 3) (v := ?_) rfl (by kernel_rfl) (by kernel_rfl) (by kernel_rfl) (fun _ _ _ h => h) (Or.inl ⟨by rfl, ?_⟩) hHeld ?_
    rotate_left
    · rintro w' ⟨c0, c1, c2, c3⟩; go_simp; rfl
    try simp only [Act.put, List.setIfInBounds_toArray, List.set_cons_zero, List.set_cons_succ]
    refine takeL (i := 4) (v := ?_) rfl (by kernel_rfl) (by kernel_rfl) (by kernel_rfl) (fun _ _ _ h => h) (Or.inl ⟨by rfl, ?_⟩) hHeld ?_
    rotate_left
    · rintro w' ⟨c0, c1, c2, c3⟩; go_simp; rfl
    try simp only [Act.put, List.setIfInBounds_toArray, List.set_cons_zero, List.set_cons_succ]
    refine takeL (i := 5) (v := ?_) rfl (by kernel_rfl) (by kernel_rfl) (by kernel_rfl) (fun _ _ _ h => h) (Or.inl ⟨by rfl, ?_⟩) hHeld ?_
    rotate_left
    · rintro w' ⟨c0, c1, c2, c3⟩; go_simp; rfl
    try simp only [Act.put, List.setIfInBounds_toArray, List.set_cons_zero, List.set_cons_succ]
    refine takeL (i := 6) (v := ?_) rfl (by kernel_rfl) (by kernel_rfl) (by kernel_rfl) (fun _ _ _ h => h) (Or.inl ⟨by rfl, ?_⟩) hHeld ?_
    rotate_left
    · rintro w' ⟨c0, c1, c2, c3⟩; go_simp; rfl
    try simp only [Act.put, List.setIfInBounds_toArray, List.set_cons_zero, List.set_cons_succ]
    refine takeL (i := 7) (v := ?_) rfl (by kernel_rfl) (by kernel_rfl) (by kernel_rfl) (fun _ _ _ h => h) (Or.inl ⟨by rfl, ?_⟩) hHeld ?_
    rotate_left
    · rintro w' ⟨c0, c1, c2, c3⟩; go_simp; rfl
    try simp only [Act.put, List.setIfInBounds_toArray, List.set_cons_zero, List.set_cons_succ]
    refine takeL (i := 8) (v := ?_) rfl (by kernel_rfl) (by kernel_rfl) (by kernel_rfl) (fun _ _ _ h => h) (Or.inl ⟨by rfl, ?_⟩) hHeld ?_
    rotate_left
    · rintro w' ⟨c0, c1, c2, c3⟩; go_simp; rfl
    try simp only [Act.put, List.setIfInBounds_toArray, List.set_cons_zero, List.set_cons_succ]
    refine takeL (i := 12) (v := ?_) rfl (by kernel_rfl) (by kernel_rfl) (by kernel_rfl) (fun _ _ _ h => h) (Or.inl ⟨by rfl, ?_⟩) hHeld ?_
    rotate_left
    · rintro w' ⟨c0, c1, c2, c3⟩; go_simp; rfl
    try simp only [Act.put, List.setIfInBounds_toArray, List.set_cons_zero, List.set_cons_succ]
    refine takeL (i := 14) (v := ?_) rfl (by kernel_rfl) (by kernel_rfl) (by kernel_rfl) (fun _ _ _ h => h) (Or.inl ⟨by rfl, ?_⟩) hHeld ?_
    rotate_left
    · rintro w' ⟨c0, c1, c2, c3⟩; go_simp; rfl
    try simp only [Act.put, List.setIfInBounds_toArray, List.set_cons_zero, List.set_cons_succ]
    refine wpAnyH_ready (rs := [9]) (by kernel_rfl) (by simp) ?_
    refine consL rfl (fun KK hKK => ?_) AllReadyH.nil
    refine step_callv (by rfl) 38 [.tmp 79] _ [.int .i64 tn] _ (by rfl) (by rfl) (enter38 _) (HF.out _) ?_
    rintro e w1 ⟨rfl, hb1⟩
    refine ⟨_, rfl, ?_⟩
    have HB1 : Hid (Below G w w1) := HBd.out.trans (hb1.mono (Nat.le_of_lt hsd))
    refine hKK.out _ _ (hHeld.below hsd hb1) (fun hHeld => ?_)
    clear hKK KK hb1
    try simp only [Act.put, List.setIfInBounds_toArray, List.set_cons_zero, List.set_cons_succ]
    refine takeL (i := 10) (v := ?_) rfl (by kernel_rfl) (by kernel_rfl) (by kernel_rfl) (fun _ _ _ h => h) (Or.inl ⟨by rfl, ?_⟩) hHeld ?_
    rotate_left
    · rintro w' ⟨c0, c1, c2, c3⟩; go_simp; rfl
    try simp only [Act.put, List.setIfInBounds_toArray, List.set_cons_zero, List.set_cons_succ]
    refine takeL (i := 11) (v := ?_) rfl (by kernel_rfl) (by kernel_rfl) (by kernel_rfl) (fun _ _ _ h => h) (Or.inl ⟨by rfl, ?_⟩) hHeld ?_
    rotate_left
    · rintro w' ⟨c0, c1, c2, c3⟩; go_simp; rfl
    try simp only [Act.put, List.setIfInBounds_toArray, List.set_cons_zero, List.set_cons_succ]
    refine takeL (i := 13) (v := ?_) rfl (by kernel_rfl) (by kernel_rfl) (by kernel_rfl) (fun _ _ _ h => h) (Or.inl ⟨by rfl, ?_⟩) hHeld ?_
    rotate_left
    · rintro w' ⟨c0, c1, c2, c3⟩; go_simp; rfl
    try simp only [Act.put, List.setIfInBounds_toArray, List.set_cons_zero, List.set_cons_succ]
    refine takeL (i := 15) (v := ?_) rfl (by kernel_rfl) (by kernel_rfl) (by kernel_rfl) (fun _ _ _ h => h) (Or.inl ⟨by rfl, ?_⟩) hHeld ?_
    rotate_left
    · rintro w' ⟨c0, c1, c2, c3⟩; go_simp; rfl
    try simp only [Act.put, List.setIfInBounds_toArray, List.set_cons_zero, List.set_cons_succ]
    refine takeL (i := 16) (v := ?_) rfl (by kernel_rfl) (by kernel_rfl) (by kernel_rfl) (fun _ _ _ h => h) (Or.inl ⟨by rfl, ?_⟩) hHeld ?_
    rotate_left
    · rintro w' ⟨c0, c1, c2, c3⟩; go_simp; rfl
    try simp only [Act.put, List.setIfInBounds_toArray, List.set_cons_zero, List.set_cons_succ]
    refine takeL (i := 17) (v := ?_) rfl (by kernel_rfl) (by kernel_rfl) (by kernel_rfl) (fun _ _ _ h => h) (Or.inl ⟨by rfl, ?_⟩) hHeld ?_
    rotate_left
    · rintro w' ⟨c0, c1, c2, c3⟩; go_simp; rfl
    try simp only [Act.put, List.setIfInBounds_toArray, List.set_cons_zero, List.set_cons_succ]
    refine wpAnyH_done (by kernel_rfl) ?_ _
    go_wp2
    go_ret2
    exact PE.out _ HB1.out
  · have hzn : zn = (zz : Int) := by have := HZZ.out; omega
    have hsg : sg = ⟨#[43]⟩ := by rw [HSG.out, if_neg hz]
    clear HSG HE HZZ
    subst hsg
    subst hzn
    have hz0 : ¬ (zz : Int) < 0 := hz
    go_wp2_with fail
    rw [HWZ.out]
    clear hcv c0 c1 c2 c3
    refine wp_region_held_drew (S := BoxP G N M tn (zz : Int)) (by kernel_rfl) (by exact HXz.out) (fun hHeld => ?_)
    have hsd : G < wz.drew.heap.size := hsz
    have HBd : Hid (Below G w wz.drew) := hid ⟨HBz.out.os, HBz.out.tape, HBz.out.output, HBz.out.size, HBz.out.block⟩
    generalize wz.drew = wd at hHeld hsd HBd ⊢
    refine takeL (i := 0) (v := ?_) rfl (by kernel_rfl) (by kernel_rfl) (by kernel_rfl) (fun _ _ _ h => h) (Or.inl ⟨by rfl, ?_⟩) hHeld ?_
    rotate_left
    · rintro w' ⟨c0, c1, c2, c3⟩; go_simp; rfl
    try simp only [Act.put, List.setIfInBounds_toArray, List.set_cons_zero, List.set_cons_succ]
    refine takeL (i := 1) (v := ?_) rfl (by kernel_rfl) (by kernel_rfl) (by kernel_rfl) (fun _ _ _ h => h) (Or.inl ⟨by rfl, ?_⟩) hHeld ?_
    rotate_left
    · rintro w' ⟨c0, c1, c2, c3⟩; go_simp; rfl
    try simp only [Act.put, List.setIfInBounds_toArray, List.set_cons_zero, List.set_cons_succ]
    refine takeL (i := 2) (v := ?_) rfl (by kernel_rfl) (by kernel_rfl) (by kernel_rfl) (fun _ _ _ h => h) (Or.inl ⟨by rfl, ?_⟩) hHeld ?_
    rotate_left
    · rintro w' ⟨c0, c1, c2, c3⟩; go_simp; rfl
    try simp only [Act.put, List.setIfInBounds_toArray, List.set_cons_zero, List.set_cons_succ]
    refine takeL (i := 3) (v := ?_) rfl (by kernel_rfl) (by kernel_rfl) (by kernel_rfl) (fun _ _ _ h => h) (Or.inl ⟨by rfl, ?_⟩) hHeld ?_
    rotate_left
    · rintro w' ⟨c0, c1, c2, c3⟩; go_simp; rfl
    try simp only [Act.put, List.setIfInBounds_toArray, List.set_cons_zero, List.set_cons_succ]
    refine takeL (i := 4) (v := ?_) rfl (by kernel_rfl) (by kernel_rfl) (by kernel_rfl) (fun _ _ _ h => h) (Or.inl ⟨by rfl, ?_⟩) hHeld ?_
    rotate_left
    · rintro w' ⟨c0, c1, c2, c3⟩; go_simp; rfl
    try simp only [Act.put, List.setIfInBounds_toArray, List.set_cons_zero, List.set_cons_succ]
    refine takeL (i := 5) (v := ?_) rfl (by kernel_rfl) (by kernel_rfl) (by kernel_rfl) (fun _ _ _ h => h) (Or.inl ⟨by rfl, ?_⟩) hHeld ?_
    rotate_left
    · rintro w' ⟨c0, c1, c2, c3⟩; go_simp; rfl
    try simp only [Act.put, List.setIfInBounds_toArray, List.set_cons_zero, List.set_cons_succ]
    refine takeL (i := 6) (v := ?_) rfl (by kernel_rfl) (by kernel_rfl) (by kernel_rfl) (fun _ _ _ h => h) (Or.inl ⟨by rfl, ?_⟩) hHeld ?_
    rotate_left
    · rintro w' ⟨c0, c1, c2, c3⟩; go_simp; rfl
    try simp only [Act.put, List.setIfInBounds_toArray, List.set_cons_zero, List.set_cons_succ]
    refine takeL (i := 7) (v := ?_) rfl (by kernel_rfl) (by kernel_rfl) (by kernel_rfl) (fun _ _ _ h => h) (Or.inl ⟨by rfl, ?_⟩) hHeld ?_
    rotate_left
    · rintro w' ⟨c0, c1, c2, c3⟩; go_simp; rfl
    try simp only [Act.put, List.setIfInBounds_toArray, List.set_cons_zero, List.set_cons_succ]
    refine takeL (i := 8) (v := ?_) rfl (by kernel_rfl) (by kernel_rfl) (by kernel_rfl) (fun _ _ _ h => h) (Or.inl ⟨by rfl, ?_⟩) hHeld ?_
    rotate_left
    · rintro w' ⟨c0, c1, c2, c3⟩; go_simp; rfl
    try simp only [Act.put, List.setIfInBounds_toArray, List.set_cons_zero, List.set_cons_succ]
    refine takeL (i := 12) (v := ?_) rfl (by kernel_rfl) (by kernel_rfl) (by kernel_rfl) (fun _ _ _ h => h) (Or.inl ⟨by rfl, ?_⟩) hHeld ?_
    rotate_left
    · rintro w' ⟨c0, c1, c2, c3⟩; go_simp; rfl
    try simp only [Act.put, List.setIfInBounds_toArray, List.set_cons_zero, List.set_cons_succ]
    refine takeL (i := 14) (v := ?_) rfl (by kernel_rfl) (by kernel_rfl) (by kernel_rfl) (fun _ _ _ h => h) (Or.inl ⟨by rfl, ?_⟩) hHeld ?_
    rotate_left
    · rintro w' ⟨c0, c1, c2, c3⟩; go_simp; rfl
    try simp only [Act.put, List.setIfInBounds_toArray, List.set_cons_zero, List.set_cons_succ]
    refine wpAnyH_ready (rs := [9]) (by kernel_rfl) (by simp) ?_
    refine consL rfl (fun KK hKK => ?_) AllReadyH.nil
    refine step_callv (by rfl) 38 [.tmp 79] _ [.int .i64 tn] _ (by rfl) (by rfl) (enter38 _) (HF.out _) ?_
    rintro e w1 ⟨rfl, hb1⟩
    refine ⟨_, rfl, ?_⟩
    have HB1 : Hid (Below G w w1) := HBd.out.trans (hb1.mono (Nat.le_of_lt hsd))
    refine hKK.out _ _ (hHeld.below hsd hb1) (fun hHeld => ?_)
    clear hKK KK hb1
    try simp only [Act.put, List.setIfInBounds_toArray, List.set_cons_zero, List.set_cons_succ]
    refine takeL (i := 10) (v := ?_) rfl (by kernel_rfl) (by kernel_rfl) (by kernel_rfl) (fun _ _ _ h => h) (Or.inl ⟨by rfl, ?_⟩) hHeld ?_
    rotate_left
    · rintro w' ⟨c0, c1, c2, c3⟩; go_simp; rfl
    try simp only [Act.put, List.setIfInBounds_toArray, List.set_cons_zero, List.set_cons_succ]
    refine takeL (i := 11) (v := ?_) rfl (by kernel_rfl) (by kernel_rfl) (by kernel_rfl) (fun _ _ _ h => h) (Or.inl ⟨by rfl, ?_⟩) hHeld ?_
    rotate_left
    · rintro w' ⟨c0, c1, c2, c3⟩; go_simp; rfl
    try simp only [Act.put, List.setIfInBounds_toArray, List.set_cons_zero, List.set_cons_succ]
    refine takeL (i := 13) (v := ?_) rfl (by kernel_rfl) (by kernel_rfl) (by kernel_rfl) (fun _ _ _ h => h) (Or.inl ⟨by rfl, ?_⟩) hHeld ?_
    rotate_left
    · rintro w' ⟨c0, c1, c2, c3⟩; go_simp; rfl
    try simp only [Act.put, List.setIfInBounds_toArray, List.set_cons_zero, List.set_cons_succ]
    refine takeL (i := 15) (v := ?_) rfl (by kernel_rfl) (by kernel_rfl) (by kernel_rfl) (fun _ _ _ h => h) (Or.inl ⟨by rfl, ?_⟩) hHeld ?_
    rotate_left
    · rintro w' ⟨c0, c1, c2, c3⟩; go_simp; rfl
    try simp only [Act.put, List.setIfInBounds_toArray, List.set_cons_zero, List.set_cons_succ]
    refine takeL (i := 16) (v := ?_) rfl (by kernel_rfl) (by kernel_rfl) (by kernel_rfl) (fun _ _ _ h => h) (Or.inl ⟨by rfl, ?_⟩) hHeld ?_
    rotate_left
    · rintro w' ⟨c0, c1, c2, c3⟩; go_simp; rfl
    try simp only [Act.put, List.setIfInBounds_toArray, List.set_cons_zero, List.set_cons_succ]
    refine takeL (i := 17) (v := ?_) rfl (by kernel_rfl) (by kernel_rfl) (by kernel_rfl) (fun _ _ _ h => h) (Or.inl ⟨by rfl, ?_⟩) hHeld ?_
    rotate_left
    · rintro w' ⟨c0, c1, c2, c3⟩; go_simp; rfl
    try simp only [Act.put, List.setIfInBounds_toArray, List.set_cons_zero, List.set_cons_succ]
    refine wpAnyH_done (by kernel_rfl) ?_ _
    go_wp2
    go_ret2
    exact PE.out _ HB1.out
end Go.Proofs.YtenbdeljblmbhaaGreatDoor
