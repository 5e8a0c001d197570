/- The document's 'Texts'. -/
import Derived.Test.YtakddciegnkpdaaMgB
namespace Go.Proofs.Ytakddciegnkpdaa
open Go.RowKit
set_option linter.unusedVariables false
set_option linter.unusedSimpArgs false
theorem conv_bytes (l : Str) (w : World) : ∃ cap w', (convert 9 22 (.string ⟨l.toArray⟩)).run Try.prog w = .ok (.slice (some ⟨w.heap.size, 0, none⟩) l.length cap) w' ∧ PB w' (some ⟨w.heap.size, 0, none⟩) cap l ∧ Below w.heap.size w w' := by
  have hr := run_bytes_of_string (P := Try.prog) w 9 22 5 ⟨l.toArray⟩ Try.underlying9 Try.underlying22 Try.underlying5
  have hsz : (⟨l.toArray⟩ : ByteArray).size = l.length := by simp [ByteArray.size]
  rw [hsz] at hr
  have hge := grownCap_ge w l.length 0 5
  generalize grownCap w l.length 0 5 = cap at hr hge
  have h1 : ∀ i, i < l.length → (bytesRow ⟨l.toArray⟩ cap)[i]? = some (.int .u8 ((l.getD i 0).toNat : Int)) := fun i hi => by
    simp [bytesRow, hi, Array.getElem?_append]
  generalize bytesRow ⟨l.toArray⟩ cap = R at hr h1
  have hh : (w.drew.alloc (.cells R 5 (R.size, R.size + 1))).heap[w.heap.size]? = some (.cells R 5 (R.size, R.size + 1)) := by
    show (w.heap.push _)[w.heap.size]? = _
    simp
  refine ⟨cap, _, hr, ⟨hge, fun _ => ⟨_, 0, rfl, by simp, fun i hi j v hv => ?_⟩, fun h => by cases h⟩, rfl, rfl, rfl, by simp, fun k hk => ?_⟩
  · have hj : j = 0 := by
      have := (List.getElem?_eq_some_iff.1 hv).1
      simp [encB] at this
      exact this
    subst hj
    rw [Nat.zero_add, Nat.mul_one, Nat.add_zero, World.cell?, hh]
    have := h1 i hi
    simp [encB] at hv
    rw [← hv]
    exact this
  · show (w.heap.push _)[k]? = _
    rw [Array.getElem?_push_lt hk, Array.getElem?_eq_getElem hk]
/-- What 'Texts' answers. -/
def PostTx (T : Str) (N : Nat) (w : World) (e : Ending) (w' : World) : Prop :=
  ∃ a cap, e = .returned (.tuple #[.slice a T.length cap, .int .i64 N]) ∧ Below w.heap.size w w' ∧ PB w' a cap T ∧ (∀ p : Addr, a = some p → w.heap.size ≤ p.block)
/-- How the loop stands ahead of line i. -/
def Md (a b : Str) (A : List Str) (K : List Bool) (I : List Str) (K' : List Bool) (I' : List Str) (T : Str) (N i : Nat) (o x y out : Str) (n : Nat) : Prop :=
  T = out ++ txt a b (pcs (A.drop i) (K.drop i) (I.drop i) (K'.drop i) (I'.drop i) o x y) ∧ N = n + cnf (pcs (A.drop i) (K.drop i) (I.drop i) (K'.drop i) (I'.drop i) o x y)
section
variable {a b : Str} {A : List Str} {K : List Bool} {I : List Str} {K' : List Bool} {I' : List Str} {T : Str} {N i : Nat} {o x y out : Str} {n : Nat}
theorem Md.soft (h : Md a b A K I K' I' T N i o x y out n) (hA : i < A.length) (hK : K.length = A.length) (hK' : K'.length = A.length) (hf : (K.getD i false && K'.getD i false) = false) :
    Md a b A K I K' I' T N (i + 1) (o ++ A.getD i []) (x ++ I.getD i [] ++ (if K.getD i false then A.getD i [] else [])) (y ++ I'.getD i [] ++ (if K'.getD i false then A.getD i [] else [])) out n := by
  unfold Md at h ⊢
  rw [pcs_at A K I K' I' i o x y hA hK hK', hf, if_neg (by simp)] at h
  exact h
theorem Md.firm (h : Md a b A K I K' I' T N i o x y out n) (hA : i < A.length) (hK : K.length = A.length) (hK' : K'.length = A.length) (hf : (K.getD i false && K'.getD i false) = true) :
    Md a b A K I K' I' T N (i + 1) [] [] [] (out ++ (pc a b (o, x ++ I.getD i [], y ++ I'.getD i [])).1 ++ A.getD i []) (n + (pc a b (o, x ++ I.getD i [], y ++ I'.getD i [])).2) := by
  unfold Md at h ⊢
  rw [pcs_at A K I K' I' i o x y hA hK hK', hf, if_pos rfl] at h
  refine ⟨?_, ?_⟩
  · rw [h.1, txt, txt, pc_firm]; simp
  · rw [h.2, cnf, cnf, pc_firm, pc_n a b]; simp only [Nat.zero_add]; omega
theorem Md.last (h : Md a b A K I K' I' T N i o x y out n) (hA : A.length ≤ i) : T = out ++ (pc a b (o, x ++ I.getD i [], y ++ I'.getD i [])).1 ∧ N = n + (pc a b (o, x ++ I.getD i [], y ++ I'.getD i [])).2 := by
  unfold Md at h
  rw [pcs_end A K I K' I' i o x y hA] at h
  refine ⟨?_, ?_⟩
  · rw [h.1, txt, txt]; simp
  · rw [h.2, cnf, cnf, pc_n a b]; rfl
theorem Md.len (h : Md a b A K I K' I' T N i o x y out n) : out.length ≤ T.length ∧ n ≤ N := ⟨by rw [h.1, List.length_append]; omega, by rw [h.2]; omega⟩
end
theorem sdI_short (s t : Str) (i : Nat) : ((sdI (edits (lns s) (lns t))).getD i []).length ≤ t.length := by
  have h := Ij_short s t (edits (lns s) (lns t)).length i
  have e := Ij_all (edits (lns s) (lns t)) _ (Nat.le_refl _)
  rw [(edits_A _ _).1] at e
  rwa [e] at h
theorem lns_at_short (s : Str) (i : Nat) : ((lns s).getD i []).length ≤ s.length := by
  rw [List.getD_eq_getElem?_getD]
  cases h : (lns s)[i]? with
  | none => simp
  | some l => exact lns_short s l (List.mem_of_getElem? h)
set_option maxRecDepth 20000 in
set_option maxHeartbeats 4000000 in
theorem refTexts_any (hRef : RefE) {w : World} (a0 : Option Addr) (c0 : Nat) (s : Str) (h0 : PB w a0 c0 s) (hs : s.length ≤ 3000) (a1 : Option Addr) (c1 : Nat) (t : Str) (h1 : PB w a1 c1 t) (ht : t.length ≤ 3000) (a2 : Option Addr) (c2 : Nat) (u : Str) (h2 : PB w a2 c2 u) (hu : u.length ≤ 3000) (a b : Str) (hab : a.length + b.length ≤ 3000) :
    Calls Try.prog 8 #[.slice a0 s.length c0, .slice a1 t.length c1, .slice a2 u.length c2, sV a, sV b] w (PostTx (mtx a b s t u) (mcn s t u) w) := by
  obtain ⟨A, HA⟩ : ∃ A, Hid (lns s = A) := ⟨_, rfl⟩
  obtain ⟨E, HE⟩ : ∃ E, Hid (edits (lns s) (lns t) = E) := ⟨_, rfl⟩
  obtain ⟨F, HF⟩ : ∃ E, Hid (edits (lns s) (lns u) = E) := ⟨_, rfl⟩
  obtain ⟨T, HT⟩ : ∃ T, Hid (mtx a b s t u = T) := ⟨_, rfl⟩
  obtain ⟨N, HN⟩ : ∃ T, Hid (mcn s t u = T) := ⟨_, rfl⟩
  obtain ⟨m, HM⟩ : ∃ m, Hid (A.length = m) := ⟨_, rfl⟩
  have hm : m ≤ 3000 := by rw [← HM.out, ← HA.out]; have := lns_few s; omega
  have hTl : T.length ≤ 20000000 := by rw [← HT.out]; exact mtx_len a b s t u hs ht hu hab
  have hNl : N ≤ 6001 := by rw [← HN.out]; exact mcn_le s t u hs
  have HKE : Hid ((sdK E).length = A.length) := hid (by rw [sdK_len, ← HE.out, (edits_A _ _).1, HA.out])
  have HKF : Hid ((sdK F).length = A.length) := hid (by rw [sdK_len, ← HF.out, (edits_A _ _).1, HA.out])
  have HIE : Hid ((sdI E).length = m + 1) := hid (by rw [sdI_len, ← HE.out, (edits_A _ _).1, HA.out, HM.out])
  have HIF : Hid ((sdI F).length = m + 1) := hid (by rw [sdI_len, ← HF.out, (edits_A _ _).1, HA.out, HM.out])
  have HLA : Hid (∀ i, (A.getD i []).length ≤ 3000) := hid (fun i => by rw [← HA.out]; exact Nat.le_trans (lns_at_short s i) hs)
  have HLE : Hid (∀ i, ((sdI E).getD i []).length ≤ 3000) := hid (fun i => by rw [← HE.out]; exact Nat.le_trans (sdI_short s t i) ht)
  have HLF : Hid (∀ i, ((sdI F).getD i []).length ≤ 3000) := hid (fun i => by rw [← HF.out]; exact Nat.le_trans (sdI_short s u i) hu)
  have HMD : Hid (Md a b A (sdK E) (sdI E) (sdK F) (sdI F) T N 0 [] [] [] [] 0) := hid (by
    unfold Md
    rw [← HT.out, ← HN.out, ← HA.out, ← HE.out, ← HF.out]
    exact ⟨rfl, (Nat.zero_add _).symm⟩)
  have ha : a.length ≤ 3000 := by omega
  have hb : b.length ≤ 3000 := by omega
  have CP : Hid (∀ (o x y : Str) (W : World), x.length ≤ 20000000 → y.length ≤ 20000000 → Calls Try.prog 17 #[sV o, sV x, sV y, sV a, sV b] W fun e w' => e = .returned (.tuple #[sV (pc a b (o, x, y)).1, .int .i64 ((pc a b (o, x, y)).2 : Nat)]) ∧ w' = W) := fun o x y W hx hy => refPiece_any o x y a b W hx hy (by omega) (by omega)
  obtain ⟨n0, HN0⟩ : ∃ n, Hid (s.length = n) := ⟨_, rfl⟩
  obtain ⟨n1, HN1⟩ : ∃ n, Hid (t.length = n) := ⟨_, rfl⟩
  obtain ⟨n2, HN2⟩ : ∃ n, Hid (u.length = n) := ⟨_, rfl⟩
  obtain ⟨g, HG⟩ : ∃ g, Hid (w.heap.size = g) := ⟨_, rfl⟩
  have C15 : Hid (Calls Try.prog 15 #[.slice a0 n0 c0] w (PostS A w)) := hid (by rw [← HN0.out, ← HA.out]; exact refLines_any a0 c0 s h0 (by omega))
  have C1 : Hid (∀ W, Below g w W → Calls Try.prog 16 #[.slice a0 n0 c0, .slice a1 n1 c1] W (PostSd E m W)) := fun W hW => by
    have := refSide_any hRef a0 c0 s (h0.below (by rw [HG.out]; exact hW)) (by omega) a1 c1 t (h1.below (by rw [HG.out]; exact hW)) (by omega)
    rwa [HN0.out, HN1.out, HE.out, HA.out, HM.out] at this
  have C2 : Hid (∀ W, Below g w W → Calls Try.prog 16 #[.slice a0 n0 c0, .slice a2 n2 c2] W (PostSd F m W)) := fun W hW => by
    have := refSide_any hRef a0 c0 s (h0.below (by rw [HG.out]; exact hW)) (by omega) a2 c2 u (h2.below (by rw [HG.out]; exact hW)) (by omega)
    rwa [HN0.out, HN2.out, HF.out, HA.out, HM.out] at this
  rw [HN0.out, HN1.out, HN2.out, HT.out, HN.out]
  unfold sV at CP ⊢
  clear h0 h1 h2 hs ht hu hab hRef
  go_enter Try.func8, Try.ntmps8
  go_wp2_with fail
  refine C15.out.mono ?_
  rintro e w1 ⟨v, rfl, hbs⟩
  obtain ⟨la, lc, rfl, hps, _, _⟩ := hbs.px (d := []) (fun x _ => encS_len x)
  have HB1 : Hid (Below g w w1) := hid (by rw [← HG.out]; exact hbs.below)
  have HPL1 : Hid (PS w1 la lc A) := hps
  rw [HM.out]
  clear hbs hps
  go_wp2_with fail
  refine (C1.out w1 HB1.out).mono ?_
  rintro e w2 ⟨bk, bi, rfl, hb2, hk2, hi2⟩
  have HB2 : Hid (Below g w w2) := hid (HB1.out.trans (hb2.mono (by have := HB1.out.size; have := HG.out; omega)))
  have HPL2 : Hid (PS w2 la lc A) := hid (HPL1.out.below hb2)
  have HK2 : Hid (PK w2 (some ⟨bk, 0, none⟩) m (sdK E)) := hk2
  have HI2 : Hid (PS w2 (some ⟨bi, 0, none⟩) (m + 1) (sdI E)) := hi2
  clear hb2 hk2 hi2
  go_wp2_with fail
  refine (C2.out w2 HB2.out).mono ?_
  rintro e w3 ⟨dk, di, rfl, hb3, hk3, hi3⟩
  have HB3 : Hid (Below g w w3) := hid (HB2.out.trans (hb3.mono (by have := HB2.out.size; have := HG.out; omega)))
  have HPL : Hid (PS w3 la lc A) := hid (HPL2.out.below hb3)
  have HKE3 : Hid (PK w3 (some ⟨bk, 0, none⟩) m (sdK E)) := hid (HK2.out.below hb3)
  have HIE3 : Hid (PS w3 (some ⟨bi, 0, none⟩) (m + 1) (sdI E)) := hid (HI2.out.below hb3)
  have HKF3 : Hid (PK w3 (some ⟨dk, 0, none⟩) m (sdK F)) := hk3
  have HIF3 : Hid (PS w3 (some ⟨di, 0, none⟩) (m + 1) (sdI F)) := hi3
  have HFL : Hid (0 < m → ∃ b off, la = some ⟨b, off, none⟩) := fun h0 => by
    obtain ⟨b, off, e1, _⟩ := HPL.out.at_ (by rw [HM.out]; exact h0)
    exact ⟨b, off, e1⟩
  clear hb3 hk3 hi3
  go_wp2_with fail
  go_loopg [17, 18, 19, 20, 21, 22] (m + 1) (fun gg outv nv ov xv yv iv wr => ∃ (i n : Nat) (o x y out : Str), wr = w3 ∧ iv = .int .i64 i ∧ nv = .int .i64 n ∧ ov = .string ⟨o.toArray⟩ ∧ xv = .string ⟨x.toArray⟩ ∧ yv = .string ⟨y.toArray⟩ ∧ outv = .string ⟨out.toArray⟩ ∧ gg = m + 1 - i ∧ i ≤ m + 1 ∧ n ≤ 6001 ∧ out.length ≤ 20000000 ∧ o.length ≤ 3000 * i ∧ x.length ≤ 6000 * i ∧ y.length ≤ 6000 * i ∧ (i ≤ m → Hid (Md a b A (sdK E) (sdI E) (sdK F) (sdI F) T N i o x y out n)) ∧ (i = m + 1 → Hid (out = T ∧ n = N)))
  case atStart => exact ⟨0, 0, [], [], [], [], rfl, rfl, rfl, rfl, rfl, rfl, rfl, rfl, Nat.zero_le _, Nat.zero_le _, Nat.zero_le _, Nat.zero_le _, Nat.zero_le _, Nat.zero_le _, fun _ => HMD, fun h => by omega⟩
  case round =>
    obtain ⟨i, n, o, x, y, out, rfl, rfl, rfl, rfl, rfl, rfl, rfl, hg', him, hn6, houtl, hol, hxl, hyl, hMd, hEnd⟩ := hrel
    by_cases hle : i ≤ m
    · have hlei : (i : Int) ≤ (m : Int) := by omega
      have hlei1 : (i : Int) < (m : Int) + 1 := by omega
      have HMd := hMd hle
      clear hMd hEnd
      obtain ⟨ie, HIEi⟩ : ∃ z, Hid ((sdI E).getD i [] = z) := ⟨_, rfl⟩
      obtain ⟨jf, HIFi⟩ : ∃ z, Hid ((sdI F).getD i [] = z) := ⟨_, rfl⟩
      have hie : ie.length ≤ 3000 := by rw [← HIEi.out]; exact HLE.out i
      have hjf : jf.length ≤ 3000 := by rw [← HIFi.out]; exact HLF.out i
      have k1 : wr.cell? ⟨bi, i, none⟩ = some (.string ⟨ie.toArray⟩) := by
        have := HIE3.out.cell i (by rw [HIE.out]; omega)
        rw [HIEi.out, Nat.zero_add] at this
        exact this
      have k2 : wr.cell? ⟨di, i, none⟩ = some (.string ⟨jf.toArray⟩) := by
        have := HIF3.out.cell i (by rw [HIF.out]; omega)
        rw [HIFi.out, Nat.zero_add] at this
        exact this
      obtain ⟨x1, HX1⟩ : ∃ z, Hid (x ++ ie = z) := ⟨_, rfl⟩
      obtain ⟨y1, HY1⟩ : ∃ z, Hid (y ++ jf = z) := ⟨_, rfl⟩
      have ex1 : (⟨x.toArray⟩ : ByteArray) ++ ⟨ie.toArray⟩ = ⟨x1.toArray⟩ := by rw [← HX1.out]; exact str_app x ie
      have ey1 : (⟨y.toArray⟩ : ByteArray) ++ ⟨jf.toArray⟩ = ⟨y1.toArray⟩ := by rw [← HY1.out]; exact str_app y jf
      have lx1 : x1.length ≤ 6000 * i + 3000 := by rw [← HX1.out, List.length_append]; omega
      have ly1 : y1.length ≤ 6000 * i + 3000 := by rw [← HY1.out, List.length_append]; omega
      have CPi : Hid (Calls Try.prog 17 #[.string ⟨o.toArray⟩, .string ⟨x1.toArray⟩, .string ⟨y1.toArray⟩, .string ⟨a.toArray⟩, .string ⟨b.toArray⟩] wr fun e w' => e = .returned (.tuple #[.string ⟨(pc a b (o, x1, y1)).1.toArray⟩, .int .i64 ((pc a b (o, x1, y1)).2 : Nat)]) ∧ w' = wr) := hid (CP.out o x1 y1 wr (by omega) (by omega))
      obtain ⟨p, HPp⟩ : ∃ z, Hid ((pc a b (o, x1, y1)).1 = z) := ⟨_, rfl⟩
      obtain ⟨cn, HCn⟩ : ∃ z, Hid ((pc a b (o, x1, y1)).2 = z) := ⟨_, rfl⟩
      have hcn : cn ≤ 1 := by rw [← HCn.out, pc_n]; exact pc_one _
      rw [HPp.out, HCn.out] at CPi
      by_cases hlt : i < m
      · have hlti : (i : Int) < (m : Int) := by omega
        have hAi : i < A.length := by rw [HM.out]; exact hlt
        obtain ⟨lb, lo, hae⟩ := HFL.out (by omega)
        subst hae
        obtain ⟨ln, HLN⟩ : ∃ z, Hid (A.getD i [] = z) := ⟨_, rfl⟩
        have hln : ln.length ≤ 3000 := by rw [← HLN.out]; exact HLA.out i
        have k3 : wr.cell? ⟨lb, lo + i, none⟩ = some (.string ⟨ln.toArray⟩) := by
          have := HPL.out.cell i hAi
          rw [HLN.out] at this
          exact this
        have k4 : wr.cell? ⟨bk, i, none⟩ = some (.bool ((sdK E).getD i false)) := by
          have := HKE3.out.cell i (by rw [HKE.out]; exact hAi)
          rw [Nat.zero_add] at this
          exact this
        have k5 : wr.cell? ⟨dk, i, none⟩ = some (.bool ((sdK F).getD i false)) := by
          have := HKF3.out.cell i (by rw [HKF.out]; exact hAi)
          rw [Nat.zero_add] at this
          exact this
        have HAi : Hid (i < A.length) := hAi
        clear hAi
        obtain ⟨ke, HKEi⟩ : ∃ z, Hid ((sdK E).getD i false = z) := ⟨_, rfl⟩
        obtain ⟨kf, HKFi⟩ : ∃ z, Hid ((sdK F).getD i false = z) := ⟨_, rfl⟩
        rw [HKEi.out] at k4
        rw [HKFi.out] at k5
        cases ke with
        | true =>
          cases kf with
          | true =>
            have HS := hid (HMd.out.firm HAi.out HKE.out HKF.out (by rw [HKEi.out, HKFi.out]; rfl))
            rw [HIEi.out, HIFi.out, HX1.out, HY1.out, HPp.out, HCn.out, HLN.out] at HS
            have hl := HS.out.len
            obtain ⟨o1, HO1⟩ : ∃ z, Hid (out ++ p = z) := ⟨_, rfl⟩
            obtain ⟨o2, HO2⟩ : ∃ z, Hid (o1 ++ ln = z) := ⟨_, rfl⟩
            rw [HO1.out, HO2.out] at HS hl
            have eo1 : (⟨out.toArray⟩ : ByteArray) ++ ⟨p.toArray⟩ = ⟨o1.toArray⟩ := by rw [← HO1.out]; exact str_app _ _
            have eo2 : (⟨o1.toArray⟩ : ByteArray) ++ ⟨ln.toArray⟩ = ⟨o2.toArray⟩ := by rw [← HO2.out]; exact str_app _ _
            have l2 : o1.length ≤ 20000000 := by have h := congrArg List.length HO2.out; rw [List.length_append] at h; omega
            have lp : p.length ≤ 20000000 := by have h := congrArg List.length HO1.out; rw [List.length_append] at h; omega
            have ho2 : o2.length ≤ 20000000 := by omega
            have hn2 : n + cn ≤ 6001 := by omega
            clear hl HMd
            go_wp2_with fail
            refine CPi.out.mono ?_
            rintro e w4 ⟨rfl, rfl⟩
            go_wp2
            go_roundg (m - i)
            case measure => omega
            case rel => exact ⟨i + 1, n + cn, [], [], [], o2, rfl, by go_num, by go_num, rfl, rfl, rfl, rfl, by omega, by omega, hn2, ho2, Nat.zero_le _, Nat.zero_le _, Nat.zero_le _, fun _ => HS, fun h => by omega⟩
          | false =>
            have HS := hid (HMd.out.soft HAi.out HKE.out HKF.out (by rw [HKEi.out, HKFi.out]; rfl))
            rw [HIEi.out, HIFi.out, HX1.out, HY1.out, HLN.out, HKEi.out, HKFi.out] at HS
            simp only [Bool.false_eq_true, if_false, if_true, List.append_nil] at HS
            obtain ⟨o1, HO1⟩ : ∃ z, Hid (o ++ ln = z) := ⟨_, rfl⟩
            have eo1 : (⟨o.toArray⟩ : ByteArray) ++ ⟨ln.toArray⟩ = ⟨o1.toArray⟩ := by rw [← HO1.out]; exact str_app _ _
            have lo1 : o1.length ≤ 3000 * (i + 1) := by rw [← HO1.out, List.length_append]; omega
            rw [HO1.out] at HS
            obtain ⟨x2, HX2⟩ : ∃ z, Hid (x1 ++ ln = z) := ⟨_, rfl⟩
            have ex2 : (⟨x1.toArray⟩ : ByteArray) ++ ⟨ln.toArray⟩ = ⟨x2.toArray⟩ := by rw [← HX2.out]; exact str_app _ _
            have lx2 : x2.length ≤ 6000 * (i + 1) := by rw [← HX2.out, List.length_append]; omega
            rw [HX2.out] at HS
            clear HMd CPi
            go_wp2
            go_roundg (m - i)
            case measure => omega
            case rel => exact ⟨i + 1, n, o1, x2, y1, out, rfl, by go_num, rfl, rfl, rfl, rfl, rfl, by omega, by omega, hn6, houtl, lo1, by omega, by omega, fun _ => HS, fun h => by omega⟩
        | false =>
          cases kf with
          | true =>
            have HS := hid (HMd.out.soft HAi.out HKE.out HKF.out (by rw [HKEi.out, HKFi.out]; rfl))
            rw [HIEi.out, HIFi.out, HX1.out, HY1.out, HLN.out, HKEi.out, HKFi.out] at HS
            simp only [Bool.false_eq_true, if_false, if_true, List.append_nil] at HS
            obtain ⟨o1, HO1⟩ : ∃ z, Hid (o ++ ln = z) := ⟨_, rfl⟩
            have eo1 : (⟨o.toArray⟩ : ByteArray) ++ ⟨ln.toArray⟩ = ⟨o1.toArray⟩ := by rw [← HO1.out]; exact str_app _ _
            have lo1 : o1.length ≤ 3000 * (i + 1) := by rw [← HO1.out, List.length_append]; omega
            rw [HO1.out] at HS
            obtain ⟨y2, HY2⟩ : ∃ z, Hid (y1 ++ ln = z) := ⟨_, rfl⟩
            have ey2 : (⟨y1.toArray⟩ : ByteArray) ++ ⟨ln.toArray⟩ = ⟨y2.toArray⟩ := by rw [← HY2.out]; exact str_app _ _
            have ly2 : y2.length ≤ 6000 * (i + 1) := by rw [← HY2.out, List.length_append]; omega
            rw [HY2.out] at HS
            clear HMd CPi
            go_wp2
            go_roundg (m - i)
            case measure => omega
            case rel => exact ⟨i + 1, n, o1, x1, y2, out, rfl, by go_num, rfl, rfl, rfl, rfl, rfl, by omega, by omega, hn6, houtl, lo1, by omega, by omega, fun _ => HS, fun h => by omega⟩
          | false =>
            have HS := hid (HMd.out.soft HAi.out HKE.out HKF.out (by rw [HKEi.out, HKFi.out]; rfl))
            rw [HIEi.out, HIFi.out, HX1.out, HY1.out, HLN.out, HKEi.out, HKFi.out] at HS
            simp only [Bool.false_eq_true, if_false, if_true, List.append_nil] at HS
            obtain ⟨o1, HO1⟩ : ∃ z, Hid (o ++ ln = z) := ⟨_, rfl⟩
            have eo1 : (⟨o.toArray⟩ : ByteArray) ++ ⟨ln.toArray⟩ = ⟨o1.toArray⟩ := by rw [← HO1.out]; exact str_app _ _
            have lo1 : o1.length ≤ 3000 * (i + 1) := by rw [← HO1.out, List.length_append]; omega
            rw [HO1.out] at HS
            clear HMd CPi
            go_wp2
            go_roundg (m - i)
            case measure => omega
            case rel => exact ⟨i + 1, n, o1, x1, y1, out, rfl, by go_num, rfl, rfl, rfl, rfl, rfl, by omega, by omega, hn6, houtl, lo1, by omega, by omega, fun _ => HS, fun h => by omega⟩
      · have hlti : ¬ (i : Int) < (m : Int) := by omega
        obtain rfl : i = m := by omega
        have HLast := hid (HMd.out.last (by rw [HM.out]; exact Nat.le_refl _))
        rw [HIEi.out, HIFi.out, HX1.out, HY1.out, HPp.out, HCn.out] at HLast
        have HLast2 : Hid (out ++ p = T ∧ n + cn = N) := hid ⟨HLast.out.1.symm, HLast.out.2.symm⟩
        have eo1 : (⟨out.toArray⟩ : ByteArray) ++ ⟨p.toArray⟩ = ⟨T.toArray⟩ := by rw [str_app, HLast2.out.1]
        have lp : p.length ≤ 20000000 := by have h := congrArg List.length HLast2.out.1; rw [List.length_append] at h; omega
        have hN : (n : Int) + (cn : Int) = (N : Int) := by have h := HLast2.out.2; omega
        clear HLast HLast2 HMd
        go_wp2_with fail
        refine CPi.out.mono ?_
        rintro e w4 ⟨rfl, rfl⟩
        go_wp2
        go_roundg 0
        case measure => omega
        case rel => exact ⟨i + 1, N, [], [], [], T, rfl, by go_num, rfl, rfl, rfl, rfl, rfl, by omega, by omega, hNl, hTl, Nat.zero_le _, Nat.zero_le _, Nat.zero_le _, fun h => by omega, fun _ => hid ⟨rfl, rfl⟩⟩
    · have hlei : ¬ (i : Int) ≤ (m : Int) := by omega
      obtain rfl : i = m + 1 := by omega
      obtain ⟨rfl, rfl⟩ := (hEnd rfl).out
      obtain ⟨cap, w5, hcv, hPB, hB5⟩ := conv_bytes out wr
      have HFB : Hid (Below w.heap.size w w5) := hid (by rw [HG.out]; exact HB3.out.trans (hB5.mono (by have := HB3.out.size; have := HG.out; omega)))
      have HPF : Hid (PB w5 (some ⟨wr.heap.size, 0, none⟩) cap out) := hPB
      have HSZ : Hid (w.heap.size ≤ wr.heap.size) := hid (by have := HB3.out.size; have := HG.out; omega)
      clear hPB hB5
      go_wp2
      go_ret2
      exact ⟨_, cap, rfl, HFB.out, HPF.out, fun p hp => by cases hp; exact HSZ.out⟩
end Go.Proofs.Ytakddciegnkpdaa
