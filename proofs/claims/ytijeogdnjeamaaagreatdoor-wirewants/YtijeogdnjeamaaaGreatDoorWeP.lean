/- Plain: ids as texts; a want's texts, and how they are read again. -/
import Derived.Test.YtijeogdnjeamaaaGreatDoorWeA
import Derived.Test.YtijeogdnjeamaaaGreatDoorWdD
import Derived.Test.YtijeogdnjeamaaaGreatDoorParC
namespace Go.Proofs.YtijeogdnjeamaaaGreatDoor.Hx
open Go.RowKit
set_option linter.unusedVariables false
set_option linter.unusedSimpArgs false
theorem str_size (l : List Int) : (strOfNums l).size = l.length := by simp [strOfNums, ByteArray.size]
theorem str_sgn (l : List Int) (k : Nat) (h : k < l.length) (hb : ∀ n ∈ l, 0 ≤ n ∧ n < 256) : sgn (strOfNums l) k = l.getD k 0 := by
  have hm := hb _ (List.getElem_mem h)
  unfold sgn strOfNums
  simp [h]
  omega
theorem dig_bd (n : Int) (h : 0 ≤ n ∧ n < 16) : 0 ≤ dig n ∧ dig n < 256 := by unfold dig; split <;> omega
theorem hv_dig (n : Int) (h : 0 ≤ n ∧ n < 16) : hv (dig n) = n := by
  unfold hv dig
  by_cases a : n < 10
  · rw [if_pos a, if_pos (by omega)]; omega
  · rw [if_neg a, if_neg (by omega), if_pos (by omega)]; omega
theorem hexOf_bd (zs : List Int) (hz : ∀ n ∈ zs, 0 ≤ n ∧ n < 256) : ∀ n ∈ hexOf zs, 0 ≤ n ∧ n < 256 := by
  intro n hn
  simp only [hexOf, List.mem_flatMap] at hn
  obtain ⟨x, hx, hn⟩ := hn
  have := hz x hx
  simp at hn
  rcases hn with rfl | rfl
  · exact dig_bd _ (by omega)
  · exact dig_bd _ (by omega)
theorem hexOf_at : ∀ (zs : List Int) (k : Nat), k < zs.length → (hexOf zs).getD (2 * k) 0 = dig (zs.getD k 0 / 16) ∧ (hexOf zs).getD (2 * k + 1) 0 = dig (zs.getD k 0 % 16)
  | x :: r, 0, _ => by simp [hexOf]
  | x :: r, k + 1, h => by
    have := hexOf_at r k (by simpa using h)
    have e : hexOf (x :: r) = dig (x / 16) :: dig (x % 16) :: hexOf r := by simp [hexOf]
    rw [e, show 2 * (k + 1) = 2 * k + 1 + 1 from by omega, show 2 * k + 1 + 1 + 1 = (2 * k + 1) + 1 + 1 from rfl]
    simpa using this
theorem hex_sgn (zs : List Int) (hl : zs.length = 20) (hz : ∀ n ∈ zs, 0 ≤ n ∧ n < 256) (k : Nat) (hk : k < 40) : hv (sgn (strOfNums (hexOf zs)) k) = if k % 2 = 0 then zs.getD (k / 2) 0 / 16 else zs.getD (k / 2) 0 % 16 := by
  rw [str_sgn _ k (by rw [hexOf_len]; omega) (hexOf_bd zs hz)]
  have hx := hz (zs.getD (k / 2) 0) (by rw [List.getD_eq_getElem?_getD, List.getElem?_eq_getElem (by omega)]; exact List.getElem_mem _)
  obtain ⟨h0, h1⟩ := hexOf_at zs (k / 2) (by omega)
  by_cases h2 : k % 2 = 0
  · rw [if_pos h2, show k = 2 * (k / 2) from by omega, h0, show 2 * (k / 2) / 2 = k / 2 from by omega]
    exact hv_dig _ (by omega)
  · rw [if_neg h2]
    have e : (hexOf zs).getD k 0 = (hexOf zs).getD (2 * (k / 2) + 1) 0 := by congr 1; omega
    rw [e, h1]
    exact hv_dig _ (by omega)
theorem hex_good (zs : List Int) (hl : zs.length = 20) (hz : ∀ n ∈ zs, 0 ≤ n ∧ n < 256) : good (strOfNums (hexOf zs)) := fun k hk => by
  have hx := hz (zs.getD (k / 2) 0) (by rw [List.getD_eq_getElem?_getD, List.getElem?_eq_getElem (by omega)]; exact List.getElem_mem _)
  rw [hex_sgn zs hl hz k hk]
  split <;> omega
theorem getD_set (l : List Int) (i j : Nat) (v : Int) (hi : i < l.length) : (l.set i v).getD j 0 = if i = j then v else l.getD j 0 := by
  rw [List.getD_eq_getElem?_getD, List.getElem?_set]
  by_cases h : i = j
  · subst h; simp [hi]
  · simp [h]
theorem hex_back_at (zs : List Int) (hl : zs.length = 20) (hz : ∀ n ∈ zs, 0 ≤ n ∧ n < 256) : ∀ k, k ≤ 40 → ∀ j, j < 20 → (idAt (strOfNums (hexOf zs)) k).getD j 0 = if 2 * j + 1 < k then zs.getD j 0 else if 2 * j < k then zs.getD j 0 / 16 else 0
  | 0, _, j, hj => by
    rw [if_neg (by omega), if_neg (by omega)]
    simp only [idAt, zeros, List.getD_eq_getElem?_getD, List.getElem?_replicate]; split <;> rfl
  | k + 1, hk, j, hj => by
    have ih := hex_back_at zs hl hz k (by omega)
    have hx := hz (zs.getD j 0) (by rw [List.getD_eq_getElem?_getD, List.getElem?_eq_getElem (by omega)]; exact List.getElem_mem _)
    rw [idAt, getD_set _ _ _ _ (by rw [idAt_len]; omega), hex_sgn zs hl hz k (by omega)]
    by_cases e : k / 2 = j
    · rw [if_pos e, ih (k / 2) (by omega), e]
      by_cases h2 : k % 2 = 0
      · rw [if_pos h2, if_neg (by omega), if_neg (by omega), if_neg (by omega), if_pos (by omega)]; omega
      · rw [if_neg h2, if_neg (by omega), if_pos (by omega), if_pos (by omega)]; omega
    · rw [if_neg e, ih j hj]
      by_cases h : 2 * j + 1 < k
      · rw [if_pos h, if_pos (by omega)]
      · rw [if_neg h]
        by_cases h' : 2 * j < k
        · omega
        · rw [if_neg h', if_neg (show ¬ 2 * j + 1 < k + 1 by omega), if_neg (show ¬ 2 * j < k + 1 by omega)]
theorem hex_back (zs : List Int) (hl : zs.length = 20) (hz : ∀ n ∈ zs, 0 ≤ n ∧ n < 256) : idAt (strOfNums (hexOf zs)) 40 = zs := by
  apply List.ext_getElem (by rw [idAt_len, hl])
  intro j h1 h2
  have := hex_back_at zs hl hz 40 (Nat.le_refl _) j (by omega)
  rw [if_pos (by omega)] at this
  simpa [h1, h2] using this
end Go.Proofs.YtijeogdnjeamaaaGreatDoor.Hx
namespace Go.Proofs.YtijeogdnjeamaaaGreatDoor
open Go.RowKit
set_option linter.unusedVariables false
set_option linter.unusedSimpArgs false
/-- An id as a text. -/
def hxS (x : List Int) : Str := (Hx.hexOf x).map fun n => UInt8.ofNat n.toNat
theorem hxS_str (x : List Int) : strOfNums (Hx.hexOf x) = ⟨(hxS x).toArray⟩ := rfl
theorem hxS_len (x : List Int) (h : IdW x) : (hxS x).length = 40 := by unfold hxS; rw [List.length_map, Hx.hexOf_len, h.1]
theorem hxS_no (x : List Int) (h : IdW x) (c : UInt8) (hc : c.toNat < 48) : c ∉ hxS x := by
  intro hm
  obtain ⟨n, hn, e⟩ := List.mem_map.1 hm
  unfold Hx.hexOf at hn
  obtain ⟨y, hy, hn⟩ := List.mem_flatMap.1 hn
  have hb := h.2 y hy
  have hd : ∀ y : Int, 0 ≤ y → y < 16 → 48 ≤ Hx.dig y ∧ Hx.dig y < 103 := fun y h1 h2 => by unfold Hx.dig; split <;> omega
  have hn2 : 48 ≤ n ∧ n < 103 := by
    simp only [List.mem_cons, List.not_mem_nil, or_false] at hn
    rcases hn with rfl | rfl
    · exact hd _ (by omega) (by omega)
    · exact hd _ (by omega) (by omega)
  have h2 := congrArg UInt8.toNat e
  rw [UInt8.toNat_ofNat'] at h2
  omega
/-- What a text is read as. -/
def prs (s : Str) : Option (List Int) := if s.length = 40 ∧ ((List.range 40).all fun k => decide (0 ≤ Hx.hv (Hx.sgn ⟨s.toArray⟩ k))) = true then some (Hx.idAt ⟨s.toArray⟩ 40) else none
theorem prs_iff (s : Str) : (s.length = 40 ∧ ((List.range 40).all fun k => decide (0 ≤ Hx.hv (Hx.sgn ⟨s.toArray⟩ k))) = true) ↔ ((⟨s.toArray⟩ : ByteArray).size = 40 ∧ Hx.good ⟨s.toArray⟩) := by
  have e : (⟨s.toArray⟩ : ByteArray).size = s.length := by simp [ByteArray.size]
  rw [e]
  unfold Hx.good
  simp [List.all_eq_true]
theorem prs_yes {s : Str} (h : (⟨s.toArray⟩ : ByteArray).size = 40 ∧ Hx.good ⟨s.toArray⟩) : prs s = some (Hx.idAt ⟨s.toArray⟩ 40) := by rw [prs, if_pos ((prs_iff s).2 h)]
theorem prs_not {s : Str} (h : ¬ ((⟨s.toArray⟩ : ByteArray).size = 40 ∧ Hx.good ⟨s.toArray⟩)) : prs s = none := by rw [prs, if_neg (fun k => h ((prs_iff s).1 k))]
theorem prs_wf {s : Str} {x : List Int} (h : prs s = some x) : IdW x ∧ s.length = 40 := by
  unfold prs at h
  split at h
  · rename_i hc
    rw [← Option.some.inj h]
    exact ⟨⟨Hx.idAt_len _ _, Hx.idAt_bd _ _⟩, hc.1⟩
  · exact absurd h (by simp)
theorem prs_hx (x : List Int) (h : IdW x) : prs (hxS x) = some x := by
  have e := hxS_str x
  have hg := Hx.hex_good x h.1 h.2
  have hb := Hx.hex_back x h.1 h.2
  rw [e] at hg hb
  rw [prs_yes ⟨by simp only [ByteArray.size, List.size_toArray]; exact hxS_len x h, hg⟩, hb]
theorem prs_short {s : Str} (h : s.length ≠ 40) : prs s = none := by rw [prs, if_neg (fun k => h k.1)]
def wWord : Str := [119, 97, 110, 116, 32]
def hWord : Str := [104, 97, 118, 101, 32]
def dWord : Str := [100, 111, 110, 101]
def wWord4 : Str := [119, 97, 110, 116]
def hWord4 : Str := [104, 97, 118, 101]
/-- The texts of ids, with a word ahead. -/
def idT (p : Str) (l : List (List Int)) : List Str := l.map fun x => p ++ hxS x
/-- A want's texts. -/
def wtx (W H : List (List Int)) : List Str := idT wWord W ++ [[]] ++ idT hWord H ++ [dWord]
def wB (W H : List (List Int)) : Str := pktL ((wtx W H).map tx)
def OkI (l : List (List Int)) : Prop := l.Nodup ∧ l.length ≤ 5000
def IdL (l : List (List Int)) : Prop := ∀ x ∈ l, IdW x
theorem trP_app (p s : Str) : trP p (p ++ s) = s := by unfold trP; rw [List.take_left, if_pos rfl, List.drop_left]
theorem trP_len (p s : Str) : (trP p s).length ≤ s.length := by
  unfold trP
  split
  · rw [List.length_drop]; omega
  · exact Nat.le_refl _
/-- Ids read at the front of texts; the texts behind. -/
def rdI (p : Str) : List Str → List (List Int) × List Str
  | [] => ([], [])
  | t :: ts => match prs (trP p t) with
    | some x => (x :: (rdI p ts).1, (rdI p ts).2)
    | none => ([], t :: ts)
theorem rdI_some {p : Str} {t : Str} {ts : List Str} {x : List Int} (h : prs (trP p t) = some x) : rdI p (t :: ts) = (x :: (rdI p ts).1, (rdI p ts).2) := by rw [rdI, h]
theorem rdI_none {p : Str} {t : Str} {ts : List Str} (h : prs (trP p t) = none) : rdI p (t :: ts) = ([], t :: ts) := by rw [rdI, h]
theorem rdI_map (p : Str) (r : List Str) : ∀ l : List (List Int), IdL l → rdI p (idT p l ++ r) = (l ++ (rdI p r).1, (rdI p r).2)
  | [], _ => rfl
  | x :: l, h => by
    have ih := rdI_map p r l (fun y hy => h y (by simp [hy]))
    have e : idT p (x :: l) ++ r = (p ++ hxS x) :: (idT p l ++ r) := rfl
    rw [e, rdI_some (x := x) (by rw [trP_app]; exact prs_hx x (h x (by simp))), ih]
    rfl
theorem rdI_wf (p : Str) : ∀ ts : List Str, IdL (rdI p ts).1
  | [] => fun x hx => by cases hx
  | t :: ts => by
    cases h : prs (trP p t) with
    | none => rw [rdI_none h]; exact fun x hx => by cases hx
    | some x =>
      rw [rdI_some h]
      intro y hy
      rcases List.mem_cons.1 hy with rfl | hy
      · exact (prs_wf h).1
      · exact rdI_wf p ts y hy
def tot (ts : List Str) : Nat := (ts.map List.length).sum
theorem tot_cons (t : Str) (ts : List Str) : tot (t :: ts) = t.length + tot ts := rfl
theorem rdI_cnt (p : Str) : ∀ ts : List Str, 40 * (rdI p ts).1.length + tot (rdI p ts).2 ≤ tot ts
  | [] => Nat.le_refl _
  | t :: ts => by
    cases h : prs (trP p t) with
    | none => rw [rdI_none h]; simp
    | some x =>
      have ih := rdI_cnt p ts
      have h1 := (prs_wf h).2
      have h2 := trP_len p t
      rw [rdI_some h, tot_cons]
      show 40 * ((rdI p ts).1.length + 1) + tot (rdI p ts).2 ≤ _
      omega
theorem rdI_behind (p : Str) : ∀ ts : List Str, ts.drop (rdI p ts).1.length = (rdI p ts).2
  | [] => rfl
  | t :: ts => by
    cases h : prs (trP p t) with
    | none => rw [rdI_none h]; rfl
    | some x => rw [rdI_some h]; exact rdI_behind p ts
theorem tot_drop (ts : List Str) : ∀ k, tot (ts.drop k) ≤ tot ts := by
  intro k
  induction ts generalizing k with
  | nil => simp [tot]
  | cons t ts ih =>
    cases k with
    | zero => exact Nat.le_refl _
    | succ k => rw [List.drop_succ_cons, tot_cons]; have := ih k; omega
def rdW (ts : List Str) : List (List Int) × List (List Int) := ((rdI wWord ts).1, (rdI hWord ((rdI wWord ts).2.drop 1)).1)
theorem rdW_wtx (W H : List (List Int)) (hW : IdL W) (hH : IdL H) : rdW (wtx W H) = (W, H) := by
  have e : wtx W H = idT wWord W ++ ([] :: (idT hWord H ++ [dWord])) := by unfold wtx; simp [List.append_assoc]
  have hn : rdI wWord ([] :: (idT hWord H ++ [dWord])) = ([], [] :: (idT hWord H ++ [dWord])) := rdI_none (prs_short (by decide))
  have hd : rdI hWord [dWord] = ([], [dWord]) := rdI_none (prs_short (by decide))
  unfold rdW
  rw [e, rdI_map _ _ W hW, hn]
  simp only [List.drop_succ_cons, List.drop_zero, List.append_nil]
  rw [rdI_map _ _ H hH, hd, List.append_nil]
theorem rdW_cnt (ts : List Str) : 40 * ((rdW ts).1.length + (rdW ts).2.length) ≤ tot ts := by
  have h1 := rdI_cnt wWord ts
  have h2 := rdI_cnt hWord ((rdI wWord ts).2.drop 1)
  have h3 := tot_drop (rdI wWord ts).2 1
  show 40 * ((rdI wWord ts).1.length + (rdI hWord ((rdI wWord ts).2.drop 1)).1.length) ≤ _
  omega
theorem noEnd_tx (t : Str) : noEnd (tx t) = t := by
  unfold tx
  split
  · rename_i h; subst h; rfl
  · unfold noEnd trS
    rw [if_pos ⟨by simp, by simp⟩]
    simp
theorem noEnd_len (t : Str) : (noEnd t).length ≤ t.length := by
  unfold noEnd trS
  split
  · rw [List.length_take]; omega
  · exact Nat.le_refl _
theorem tx_len (t : Str) : (tx t).length ≤ t.length + 1 := by
  unfold tx
  split
  · simp
  · simp
theorem map_noEnd (l : List Str) : (l.map tx).map noEnd = l := by
  rw [List.map_map]
  conv => rhs; rw [← List.map_id l]
  exact List.map_congr_left fun x _ => noEnd_tx x
theorem tot_pktL : ∀ ls : List Str, tot ls + 4 * ls.length = (pktL ls).length
  | [] => rfl
  | x :: ls => by
    have := tot_pktL ls
    rw [show pktL (x :: ls) = pkt x ++ pktL ls from rfl, List.length_append, pkt_len, tot_cons, List.length_cons]
    omega
theorem tot_noEnd : ∀ ls : List Str, tot (ls.map noEnd) ≤ tot ls
  | [] => Nat.le_refl _
  | x :: ls => by
    have := tot_noEnd ls
    have := noEnd_len x
    rw [List.map_cons, tot_cons, tot_cons]
    omega
theorem pktL_inj {a b : List Str} (ha : okL a) (hb : okL b) (h : pktL a = pktL b) : a = b := by
  obtain ⟨r, e1, e2⟩ := pktL_pre b a [] hb ha (by rw [h, List.append_nil])
  have : r = [] := by
    cases r with
    | nil => rfl
    | cons x r =>
      have := congrArg List.length e2
      rw [show pktL (x :: r) = pkt x ++ pktL r from rfl, List.length_append, pkt_len] at this
      simp at this
      omega
  rw [e1, this, List.append_nil]
theorem idT_len (p : Str) (hp : p.length = 5) (l : List (List Int)) (h : IdL l) : ∀ t ∈ idT p l, t.length = 45 := by
  intro t ht
  obtain ⟨x, hx, rfl⟩ := List.mem_map.1 ht
  rw [List.length_append, hxS_len x (h x hx), hp]
theorem wtx_len (W H : List (List Int)) (hW : IdL W) (hH : IdL H) : ∀ t ∈ wtx W H, t.length ≤ 45 := by
  intro t ht
  unfold wtx at ht
  simp only [List.mem_append, List.mem_singleton] at ht
  rcases ht with ((h | rfl) | h) | rfl
  · exact Nat.le_of_eq (idT_len _ rfl W hW t h)
  · simp
  · exact Nat.le_of_eq (idT_len _ rfl H hH t h)
  · decide
theorem wtx_ok (W H : List (List Int)) (hW : IdL W) (hH : IdL H) : okL ((wtx W H).map tx) := by
  intro t ht
  obtain ⟨u, hu, rfl⟩ := List.mem_map.1 ht
  have := wtx_len W H hW hH u hu
  have := tx_len u
  omega
/-- The lines of a want are its texts. -/
theorem wB_lines {ls : List Str} {W H : List (List Int)} (hok : okL ls) (hW : IdL W) (hH : IdL H) (h : pktL ls = wB W H) : ls = (wtx W H).map tx := pktL_inj hok (wtx_ok W H hW hH) h
theorem wB_read {ls : List Str} {W H : List (List Int)} (hok : okL ls) (hW : IdL W) (hH : IdL H) (h : pktL ls = wB W H) : rdW (ls.map noEnd) = (W, H) := by
  rw [wB_lines hok hW hH h, map_noEnd, rdW_wtx W H hW hH]
/-- Words, at blanks. -/
def wdsA : Str → Str → List Str
  | w, [] => [w]
  | w, c :: r => if c = 10 ∧ r = [] then [w] else if c = 32 then w :: wdsA [] r else wdsA (w ++ [c]) r
theorem wds_len : ∀ (r w : Str), ∀ y ∈ wdsA w r, y.length ≤ w.length + r.length
  | [], w, y, hy => by rw [wdsA] at hy; rw [List.mem_singleton.1 hy]; simp
  | c :: r, w, y, hy => by
    rw [wdsA] at hy
    split at hy
    · rw [List.mem_singleton.1 hy]; simp
    · split at hy
      · rcases List.mem_cons.1 hy with rfl | hy
        · simp
        · have := wds_len r [] y hy
          simp at this ⊢
          omega
      · have := wds_len r (w ++ [c]) y hy
        simp at this ⊢
        omega
theorem wds_cnt : ∀ (r w : Str), (wdsA w r).length ≤ 1 + r.length
  | [], w => by rw [wdsA]; simp
  | c :: r, w => by
    rw [wdsA]
    split
    · simp
    · split
      · have := wds_cnt r []
        simp; omega
      · have := wds_cnt r (w ++ [c])
        simp; omega
theorem wds_plain : ∀ (u w : Str), (10 : UInt8) ∉ u → (32 : UInt8) ∉ u → wdsA w (u ++ [10]) = [w ++ u]
  | [], w, _, _ => by simp [wdsA]
  | c :: u, w, h1, h2 => by
    have hc1 : c ≠ 10 := fun e => h1 (by simp [e])
    have hc2 : c ≠ 32 := fun e => h2 (by simp [e])
    rw [List.cons_append, wdsA, if_neg (fun h => hc1 h.1), if_neg hc2, wds_plain u (w ++ [c]) (fun h => h1 (by simp [h])) (fun h => h2 (by simp [h]))]
    simp
theorem wds_blank : ∀ (u w r : Str), (10 : UInt8) ∉ u → (32 : UInt8) ∉ u → wdsA w (u ++ 32 :: r) = (w ++ u) :: wdsA [] r
  | [], w, r, _, _ => by
    rw [List.nil_append, wdsA, if_neg (fun h => by have := h.1; revert this; decide), if_pos rfl, List.append_nil]
  | c :: u, w, r, h1, h2 => by
    have hc1 : c ≠ 10 := fun e => h1 (by simp [e])
    have hc2 : c ≠ 32 := fun e => h2 (by simp [e])
    rw [List.cons_append, wdsA, if_neg (fun h => hc1 h.1), if_neg hc2, wds_blank u (w ++ [c]) r (fun h => h1 (by simp [h])) (fun h => h2 (by simp [h]))]
    simp
/-- What a line says of a word. -/
def lnW (p : Str) (x : Str) : List (List Int) := match wdsA [] x with
  | [a, b] => if a = p then (prs b).toList else []
  | _ => []
theorem lnW_two {p x a b : Str} (h : wdsA [] x = [a, b]) : lnW p x = if a = p then (prs b).toList else [] := by rw [lnW, h]
theorem lnW_not {p x : Str} (h : (wdsA [] x).length ≠ 2) : lnW p x = [] := by
  unfold lnW
  split
  · rename_i a b e
    rw [e] at h
    exact absurd rfl h
  · rfl
theorem wds_id (p4 : Str) (h1 : (10 : UInt8) ∉ p4) (h2 : (32 : UInt8) ∉ p4) (x : List Int) (hx : IdW x) : wdsA [] (tx ((p4 ++ [32]) ++ hxS x)) = [p4, hxS x] := by
  have e : tx ((p4 ++ [32]) ++ hxS x) = p4 ++ 32 :: (hxS x ++ [10]) := by
    unfold tx
    rw [if_neg (by simp)]
    simp
  rw [e, wds_blank p4 [] _ h1 h2, wds_plain (hxS x) [] (hxS_no x hx 10 (by decide)) (hxS_no x hx 32 (by decide))]
  simp
theorem lnW_idT (p q : Str) (h1 : (10 : UInt8) ∉ q) (h2 : (32 : UInt8) ∉ q) : ∀ l : List (List Int), IdL l → ((idT (q ++ [32]) l).map tx).flatMap (lnW p) = if q = p then l else []
  | [], _ => by simp [idT]
  | x :: l, h => by
    have ih := lnW_idT p q h1 h2 l (fun y hy => h y (by simp [hy]))
    have e : (idT (q ++ [32]) (x :: l)).map tx = tx ((q ++ [32]) ++ hxS x) :: (idT (q ++ [32]) l).map tx := rfl
    rw [e, List.flatMap_cons, ih, lnW_two (wds_id q h1 h2 x (h x (by simp))), prs_hx x (h x (by simp))]
    split <;> simp
theorem lnW_wtx (p : Str) (W H : List (List Int)) (hW : IdL W) (hH : IdL H) : ((wtx W H).map tx).flatMap (lnW p) = (if wWord4 = p then W else []) ++ (if hWord4 = p then H else []) := by
  have e1 := lnW_idT p wWord4 (by decide) (by decide) W hW
  have e2 := lnW_idT p hWord4 (by decide) (by decide) H hH
  rw [show wWord4 ++ [32] = wWord from rfl] at e1
  rw [show hWord4 ++ [32] = hWord from rfl] at e2
  have e3 : lnW p (tx []) = [] := lnW_not (by decide)
  have e4 : lnW p (tx dWord) = [] := lnW_not (by decide)
  unfold wtx
  simp only [List.map_append, List.flatMap_append, List.map_cons, List.map_nil, List.flatMap_cons, List.flatMap_nil, e1, e2, e3, e4, List.append_nil]
theorem lnW_cnt (p x : Str) : 40 * (lnW p x).length ≤ x.length := by
  unfold lnW
  split
  · rename_i a b e
    split
    · cases h : prs b with
      | none => simp
      | some y =>
        have h1 := (prs_wf h).2
        have h2 := wds_len x [] b (by rw [e]; simp)
        simp at h2 ⊢
        omega
    · simp
  · simp
theorem lnW_wf (p x : Str) : IdL (lnW p x) := by
  unfold lnW
  split
  · split
    · intro y hy
      rw [Option.mem_toList] at hy
      exact (prs_wf hy).1
    · intro y hy; cases hy
  · intro y hy; cases hy
theorem lnL_cnt (p : Str) : ∀ ls : List Str, 40 * (ls.flatMap (lnW p)).length ≤ tot ls
  | [] => Nat.le_refl _
  | x :: ls => by
    have := lnL_cnt p ls
    have := lnW_cnt p x
    rw [List.flatMap_cons, List.length_append, tot_cons]
    omega
theorem lnL_wf (p : Str) (ls : List Str) : IdL (ls.flatMap (lnW p)) := by
  intro y hy
  obtain ⟨x, _, h⟩ := List.mem_flatMap.1 hy
  exact lnW_wf p x y h
theorem wB_docW {ls : List Str} {W H : List (List Int)} (hok : okL ls) (hW : IdL W) (hH : IdL H) (h : pktL ls = wB W H) : ls.flatMap (lnW wWord4) = W ∧ ls.flatMap (lnW hWord4) = H := by
  rw [wB_lines hok hW hH h, lnW_wtx _ W H hW hH, lnW_wtx _ W H hW hH]
  rw [if_pos rfl, if_neg (by decide), if_neg (by decide), if_pos rfl]
  simp
end Go.Proofs.YtijeogdnjeamaaaGreatDoor
