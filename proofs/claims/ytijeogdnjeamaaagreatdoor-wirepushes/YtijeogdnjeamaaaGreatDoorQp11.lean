import Derived.Test.YtijeogdnjeamaaaGreatDoorQp10
import Derived.Test.YtijeogdnjeamaaaGreatDoorQp08
namespace Go.Proofs.YtijeogdnjeamaaaGreatDoor
open Go.RowKit
set_option linter.unusedVariables false
set_option linter.unusedSimpArgs false
structure Wls (w0 wr : World) (B0 B1 : Nat) (v : Value) (ts : List Str) (k c p g n : Nat) (S : Str → Prop) : Prop where
  bl : Below B0 w0 wr
  own : wr.ownsRow B1 9 1 v ts.length (ts.flatMap encS)
  le : B1 ≤ wr.heap.size
  on : OnS wr c p g n S
  ck : Boxed wr k 92 (onmF c)
theorem Wls.below {w0 wr w' : World} {B0 B1 : Nat} {v : Value} {ts : List Str} {k c p g n : Nat} {S : Str → Prop} (h : Wls w0 wr B0 B1 v ts k c p g n S) (hB : B0 ≤ B1) (hb : Below wr.heap.size wr w') : Wls w0 w' B0 B1 v ts k c p g n S := by
  have hg := grown_of_below hb none
  have := h.le
  exact ⟨h.bl.trans (hb.mono (by omega)), own_keep h.own hg (fun j e => by cases e), Nat.le_trans h.le hb.size, h.on.kept hg (by simp) (by simp) (by simp), h.ck.kept hg (by simp)⟩
theorem Wls.turn {w0 wr w' : World} {B0 B1 : Nat} {v : Value} {ts : List Str} {k c p g n : Nat} {S : Str → Prop} (h : Wls w0 wr B0 B1 v ts k c p g n S) (hB : B0 ≤ B1) (hg : B0 ≤ g ∧ g < B1 ∧ g ≠ k) (hgr : wr.grownBy w' (some g)) {n' : Nat} {S' : Str → Prop} (hon : OnS w' c p g n' S') : Wls w0 w' B0 B1 v ts k c p g n' S' := by
  have := h.le
  exact ⟨h.bl.grown hgr (by omega) (fun k e => by cases e; exact hg.1), own_keep h.own hgr (fun j e => by cases e; exact hg.2.1), Nat.le_trans h.le hgr.size, hon, h.ck.kept hgr (fun e => hg.2.2 (by cases e; rfl))⟩
theorem Wls.more {w0 wr : World} {B0 B1 : Nat} {v : Value} {ts : List Str} {k c p g n : Nat} {S : Str → Prop} (h : Wls w0 wr B0 B1 v ts k c p g n S) (hB : B0 ≤ B1) (hg : g < B1 ∧ p < B1 ∧ c < B1 ∧ k < B1) (hn : ts.length ≤ 20000) (s : Str) (u : ByteArray) (hu : ⟨s.toArray⟩ = u) (ty : TypeId) :
    ∃ v' W', (Builtin.append_ #[63, 63] ty #[v, .slice (some ⟨wr.heap.size, 0, none⟩) 1 1]).run Tryz.prog (wr.alloc (.cells #[.string u] 9)) = .ok v' W' ∧ Wls w0 W' B0 B1 v' (ts ++ [s]) k c p g n S := by
  obtain ⟨v', W', hr, ho, hgr⟩ := own_more h.own h.le hn s u hu ty
  have h1 := h.below hB ((Below.refl _ wr).alloc (Nat.le_refl _) (.cells #[.string u] 9))
  have hk : ∀ j, v.ownBlock = some j → B1 ≤ j := fun j e => (own_lt h.own j e).1
  have := h1.le
  exact ⟨v', W', hr, h1.bl.grown hgr (by omega) (fun k e => by have := hk k e; omega), ho, Nat.le_trans h1.le hgr.size, h1.on.kept hgr (fun e => by have := hk _ e; omega) (fun e => by have := hk _ e; omega) (fun e => by have := hk _ e; omega), h1.ck.kept hgr (fun e => by have := hk _ e.symm; omega)⟩
theorem nodup_snocS {l : List Str} {x : Str} (h : l.Nodup) (hx : x ∉ l) : (l ++ [x]).Nodup := by
  rw [List.nodup_append]
  refine ⟨h, by simp, ?_⟩
  intro a ha b hb e
  rw [List.mem_singleton.1 hb] at e
  exact hx (e ▸ ha)
theorem wpList_bS2 {P : Program} {ops : Array Oper} {rest : List Oper} {o : Oper} {a : Act} {w w' : World} {Q : Exit → Act → World → Prop} (hg : o.guard = none) (t : Nat) (x0 x1 : Operand) (ho : o.op = .buildSlice t 2 #[(0, x0), (1, x1)]) (u0 u1 v : Value) (h0 : a.eval x0 = u0) (h1 : a.eval x1 = u1)
    (hr : (Instr.buildSlice t 2 #[(0, u0), (1, u1)]).run P w = .ok v w')
    (h : wpList P ops Q rest (a.put o.dst v) w') : wpList P ops Q (o :: rest) a w := by
  refine wpList_plain hg fun K hK => ?_
  unfold Oper.wp execOp
  simp [ho, h0, h1, hr, Result.andThen]
  exact hK _ _ h
theorem run_rows2 (a0 a1 : Option Addr) (n0 n1 c0 c1 : Nat) (w : World) : (Instr.buildSlice 115 2 #[(0, .slice a0 n0 c0), (1, .slice a1 n1 c1)]).run Tryz.prog w = .ok (.slice (some ⟨w.heap.size, 0, none⟩) 2 2) (w.alloc (.cells #[.slice a0 n0 c0, .slice a1 n1 c1] 63)) := by kernel_rfl
end Go.Proofs.YtijeogdnjeamaaaGreatDoor
namespace Go.Proofs.YtijeogdnjeamaaaGreatDoor
open Go.RowKit
set_option linter.unusedVariables false
set_option linter.unusedSimpArgs false
abbrev Chg := Str × (List Int × List Int)
def encCh (x : Chg) : List Value := sV x.1 :: (row .u8 x.2.1 ++ row .u8 x.2.2)
def ch0 : Chg := ([], ([], []))
def IdC (l : List Chg) : Prop := ∀ x ∈ l, IdW x.2.1 ∧ IdW x.2.2
def okC (x : Chg) : Prop := Nm.isN x.1 = true
def OkC (l : List Chg) : Prop := (∀ x ∈ l, okC x) ∧ (l.map (·.1)).Nodup ∧ l.length ≤ 500
def chT (x : Chg) : Str := (((hxS x.2.1 ++ [32]) ++ hxS x.2.2) ++ [32]) ++ x.1
def chL (l : List Chg) : List Str := l.map chT ++ [[]]
def chB (l : List Chg) : Str := pktL ((chL l).map tx)
theorem encCh_len {x : Chg} (h : IdW x.2.1 ∧ IdW x.2.2) : (encCh x).length = 41 := by
  unfold encCh
  rw [List.length_cons, List.length_append, row_len, row_len, h.1.1, h.2.1]
theorem encCh_ln {l : List Chg} (h : IdC l) : ∀ x ∈ l, (encCh x).length = 41 := fun x hx => encCh_len (h x hx)
theorem chT_eq (x : Chg) : chT x = hxS x.2.1 ++ 32 :: (hxS x.2.2 ++ 32 :: x.1) := by simp [chT]
theorem chT_ne (x : Chg) : chT x ≠ [] := by rw [chT_eq]; simp
theorem chT_len {x : Chg} (h : IdW x.2.1 ∧ IdW x.2.2) : (chT x).length = 82 + x.1.length := by
  rw [chT_eq, List.length_append, List.length_cons, List.length_append, List.length_cons, hxS_len _ h.1, hxS_len _ h.2]
  omega
theorem chL_len {l : List Chg} (h : ∀ x ∈ l, okC x) (hi : IdC l) : ∀ t ∈ chL l, t.length ≤ 142 := by
  intro t ht
  rcases List.mem_append.1 ht with ht | ht
  · obtain ⟨x, hx, rfl⟩ := List.mem_map.1 ht
    have := isN_len (h x hx)
    rw [chT_len (hi x hx)]
    omega
  · rw [List.mem_singleton.1 ht]; simp
theorem chL_ok {l : List Chg} (h : ∀ x ∈ l, okC x) (hi : IdC l) : okL ((chL l).map tx) := by
  intro t ht
  obtain ⟨u, hu, rfl⟩ := List.mem_map.1 ht
  have := chL_len h hi u hu
  have := tx_len u
  omega
def rc1 (t : Str) : Option Chg := match prs (Lib.cut t [32]).1, prs (Lib.cut (Lib.cut t [32]).2.1 [32]).1 with
  | some a, some b => some ((Lib.cut (Lib.cut t [32]).2.1 [32]).2.1, (a, b))
  | _, _ => none
theorem rc1_yes {t : Str} {a b : List Int} (h1 : prs (Lib.cut t [32]).1 = some a) (h2 : prs (Lib.cut (Lib.cut t [32]).2.1 [32]).1 = some b) : rc1 t = some ((Lib.cut (Lib.cut t [32]).2.1 [32]).2.1, (a, b)) := by rw [rc1, h1, h2]
theorem rc1_no1 {t : Str} (h1 : prs (Lib.cut t [32]).1 = none) : rc1 t = none := by rw [rc1, h1]
theorem rc1_no2 {t : Str} (h2 : prs (Lib.cut (Lib.cut t [32]).2.1 [32]).1 = none) : rc1 t = none := by
  rw [rc1, h2]
  split
  · rename_i e; cases e
  · rfl
theorem rc1_chT {x : Chg} (h : IdW x.2.1 ∧ IdW x.2.2) : rc1 (chT x) = some x := by
  have e1 : Lib.cut (chT x) [32] = (hxS x.2.1, hxS x.2.2 ++ 32 :: x.1, true) := by
    rw [chT_eq]
    exact cut_at _ _ (hxS_no _ h.1 32 (by decide))
  have e2 : Lib.cut (hxS x.2.2 ++ 32 :: x.1) [32] = (hxS x.2.2, x.1, true) := cut_at _ _ (hxS_no _ h.2 32 (by decide))
  rw [rc1_yes (a := x.2.1) (b := x.2.2) (by rw [e1]; exact prs_hx _ h.1) (by rw [e1]; simp only; rw [e2]; exact prs_hx _ h.2), e1]
  simp only
  rw [e2]
theorem rc1_nil : rc1 [] = none := rc1_no1 (prs_short (by
  have := cut_len []
  simp at this ⊢
  rw [this]
  simp))
theorem rc1_wf {t : Str} {x : Chg} (h : rc1 t = some x) : IdW x.2.1 ∧ IdW x.2.2 := by
  unfold rc1 at h
  split at h
  · rename_i a b h1 h2
    cases h
    exact ⟨(prs_wf h1).1, (prs_wf h2).1⟩
  · cases h
theorem rc1_len {t : Str} {x : Chg} (h : rc1 t = some x) : x.1.length ≤ t.length := by
  unfold rc1 at h
  split at h
  · cases h
    exact Nat.le_trans (cut_len2 _) (cut_len2 _)
  · cases h
def rdC : List Str → List Chg × List Str
  | [] => ([], [])
  | t :: ts => match rc1 t with
    | some x => (x :: (rdC ts).1, (rdC ts).2)
    | none => ([], t :: ts)
theorem rdC_some {t : Str} {ts : List Str} {x : Chg} (h : rc1 t = some x) : rdC (t :: ts) = (x :: (rdC ts).1, (rdC ts).2) := by rw [rdC, h]
theorem rdC_none {t : Str} {ts : List Str} (h : rc1 t = none) : rdC (t :: ts) = ([], t :: ts) := by rw [rdC, h]
theorem rdC_map (r : List Str) : ∀ l : List Chg, IdC l → rdC (l.map chT ++ r) = (l ++ (rdC r).1, (rdC r).2)
  | [], _ => rfl
  | x :: l, h => by
    have ih := rdC_map r l (fun y hy => h y (by simp [hy]))
    have e : List.map chT (x :: l) ++ r = chT x :: (l.map chT ++ r) := rfl
    rw [e, rdC_some (rc1_chT (h x (by simp))), ih]
    rfl
theorem rdC_chL {l : List Chg} (h : IdC l) : (rdC (chL l)).1 = l := by
  unfold chL
  rw [rdC_map _ l h, rdC_none rc1_nil, List.append_nil]
theorem rdC_len (B : Nat) : ∀ ts : List Str, (∀ t ∈ ts, t.length ≤ B) → ∀ x ∈ (rdC ts).1, x.1.length ≤ B
  | [], _, x, hx => by cases hx
  | t :: ts, h, x, hx => by
    cases hr : rc1 t with
    | none => rw [rdC_none hr] at hx; cases hx
    | some y =>
      rw [rdC_some hr] at hx
      rcases List.mem_cons.1 hx with rfl | hx
      · exact Nat.le_trans (rc1_len hr) (h t (by simp))
      · exact rdC_len B ts (fun u hu => h u (by simp [hu])) x hx
theorem rdC_wf : ∀ ts : List Str, IdC (rdC ts).1
  | [], x, hx => by cases hx
  | t :: ts, x, hx => by
    cases hr : rc1 t with
    | none => rw [rdC_none hr] at hx; cases hx
    | some y =>
      rw [rdC_some hr] at hx
      rcases List.mem_cons.1 hx with rfl | hx
      · exact rc1_wf hr
      · exact rdC_wf ts x hx
structure Ck (s : Str) (l : List Chg) : Prop where
  ok : OkC l
  ids : IdC l
  b : s = chB l
theorem chB_lines {ls : List Str} {l : List Chg} (hok : okL ls) (hl : ∀ x ∈ l, okC x) (hi : IdC l) (h : pktL ls = chB l) : ls = (chL l).map tx := pktL_inj hok (chL_ok hl hi) h
theorem ck_read {s : Str} {ls : List Str} {l : List Chg} (h : Ck s l) (hok : okL ls) (hs : s = pktL ls) : (rdC (ls.map noEnd)).1 = l := by
  rw [chB_lines hok h.ok.1 h.ids (by rw [← hs]; exact h.b), map_noEnd, rdC_chL h.ids]
def lnC (x : Str) : List Chg := match wdsA [] x with
  | [a, b, c] => match prs a, prs b with
    | some u, some v => [(c, (u, v))]
    | _, _ => []
  | _ => []
theorem lnC_yes {x a b c : Str} {u v : List Int} (h : wdsA [] x = [a, b, c]) (h1 : prs a = some u) (h2 : prs b = some v) : lnC x = [(c, (u, v))] := by rw [lnC, h]; simp only; rw [h1, h2]
theorem lnC_no1 {x a b c : Str} (h : wdsA [] x = [a, b, c]) (h1 : prs a = none) : lnC x = [] := by rw [lnC, h]; simp only; rw [h1]
theorem lnC_no2 {x a b c : Str} (h : wdsA [] x = [a, b, c]) (h1 : prs b = none) : lnC x = [] := by
  rw [lnC, h]; simp only; rw [h1]
  split
  · rename_i e; cases e
  · rfl
theorem lnC_not {x : Str} (h : (wdsA [] x).length ≠ 3) : lnC x = [] := by
  unfold lnC
  split
  · rename_i a b c e; rw [e] at h; exact absurd rfl h
  · rfl
theorem lnC_cnt (x : Str) : (lnC x).length ≤ 1 := by
  unfold lnC
  split
  · split <;> simp
  · simp
theorem lnCL_cnt : ∀ ls : List Str, (ls.flatMap lnC).length ≤ ls.length
  | [] => Nat.le_refl _
  | x :: ls => by
    have := lnCL_cnt ls
    have := lnC_cnt x
    rw [List.flatMap_cons, List.length_append, List.length_cons]
    omega
theorem lnC_mem {x : Str} {y : Chg} (h : y ∈ lnC x) : IdW y.2.1 ∧ IdW y.2.2 ∧ y.1.length ≤ x.length := by
  unfold lnC at h
  split at h
  · rename_i a b c e
    split at h
    · rename_i u v h1 h2
      rw [List.mem_singleton.1 h]
      have := wds_len x [] c (by rw [e]; simp)
      exact ⟨(prs_wf h1).1, (prs_wf h2).1, by simpa using this⟩
    · cases h
  · cases h
theorem lnCL_wf (ls : List Str) : IdC (ls.flatMap lnC) := fun y hy => by
  obtain ⟨z, _, h⟩ := List.mem_flatMap.1 hy
  exact ⟨(lnC_mem h).1, (lnC_mem h).2.1⟩
theorem lnC_chT {x : Chg} (h : okC x) (hi : IdW x.2.1 ∧ IdW x.2.2) : lnC (tx (chT x)) = [x] := by
  have n10 := isN_bytes h 10 (by decide)
  have n32 := isN_bytes h 32 (by decide)
  have e : tx (chT x) = hxS x.2.1 ++ 32 :: (hxS x.2.2 ++ 32 :: (x.1 ++ [10])) := by
    unfold tx
    rw [if_neg (chT_ne x), chT_eq]
    simp
  have hw : wdsA [] (tx (chT x)) = [hxS x.2.1, hxS x.2.2, x.1] := by
    rw [e, wds_blank _ [] _ (hxS_no _ hi.1 10 (by decide)) (hxS_no _ hi.1 32 (by decide)), wds_blank _ [] _ (hxS_no _ hi.2 10 (by decide)) (hxS_no _ hi.2 32 (by decide)), wds_plain _ [] n10 n32]
    simp
  rw [lnC_yes hw (prs_hx _ hi.1) (prs_hx _ hi.2)]
structure Flu (s : Str) (ls : List Str) (r : Str) : Prop where
  ok : okL ls
  ne : ∀ x ∈ ls, x ≠ []
  b : s = pktL (ls ++ [[]]) ++ r
theorem pkt_split {x y r r' : Str} (hx : x.length ≤ 1000) (hy : y.length ≤ 1000) (h : pkt x ++ r = pkt y ++ r') : x = y ∧ r = r' := by
  have f1 := pkt_fst x r hx
  have f2 := pkt_fst y r' hy
  rw [← h] at f2
  have hlen := fst_one f1 f2
  have h2 := List.append_inj h (by rw [pkt_len, pkt_len, hlen])
  refine ⟨?_, h2.2⟩
  have hp := h2.1
  unfold pkt at hp
  rw [hlen] at hp
  exact List.append_cancel_left hp
theorem pktL_cons (x : Str) (l : List Str) (r : Str) : pktL (x :: l) ++ r = pkt x ++ (pktL l ++ r) := by
  rw [show pktL (x :: l) = pkt x ++ pktL l from rfl, List.append_assoc]
theorem pk_pre : ∀ (dn ls : List Str) (r r' : Str), okL dn → (∀ x ∈ dn, x ≠ []) → okL ls → pktL (ls ++ [[]]) ++ r' = pktL dn ++ r → ∃ rest, ls = dn ++ rest ∧ r = pktL (rest ++ [[]]) ++ r'
  | [], ls, r, r', _, _, _, h => ⟨ls, rfl, h.symm⟩
  | d :: dn, [], r, r', h1, hne, h2, h => by
    rw [pktL_cons, List.nil_append, pktL_cons] at h
    obtain ⟨e, _⟩ := pkt_split (by simp) (h1 d (by simp)) h
    exact absurd e.symm (hne d (by simp))
  | d :: dn, x :: ls, r, r', h1, hne, h2, h => by
    rw [pktL_cons, List.cons_append, pktL_cons] at h
    obtain ⟨rfl, h3⟩ := pkt_split (h2 x (by simp)) (h1 d (by simp)) h
    obtain ⟨rest, h4, h5⟩ := pk_pre dn ls r r' (fun y hy => h1 y (by simp [hy])) (fun y hy => hne y (by simp [hy])) (fun y hy => h2 y (by simp [hy])) h3
    exact ⟨rest, by rw [h4]; rfl, h5⟩
theorem fl_no {s r : Str} {dn : List Str} (h1 : okL dn) (h2 : ∀ x ∈ dn, x ≠ []) (h3 : s = pktL dn ++ r) (h4 : ¬ ∃ n, Fst r n) : ¬ ∃ ls q, Flu s ls q := by
  rintro ⟨ls, q, h⟩
  obtain ⟨rest, _, e⟩ := pk_pre dn ls r q h1 h2 h.ok (by rw [← h.b, h3])
  cases rest with
  | nil => exact h4 ⟨_, by rw [e, List.nil_append, pktL_cons]; exact pkt_fst [] _ (by simp)⟩
  | cons x rest => exact h4 ⟨_, by rw [e, List.cons_append, pktL_cons]; exact pkt_fst x _ (h.ok x (by
      rename_i e2
      rw [e2]
      simp))⟩
theorem fl_one {s r r2 : Str} {ls ls2 : List Str} (h : Flu s ls r) (h2 : Flu s ls2 r2) : ls = ls2 ∧ r = r2 := by
  obtain ⟨rest, e1, e2⟩ := pk_pre ls ls2 (pktL [[]] ++ r) r2 h.ok h.ne h2.ok (by rw [← h2.b, h.b, pktL_app, List.append_assoc])
  cases rest with
  | nil =>
    rw [List.append_nil] at e1
    exact ⟨e1.symm, List.append_cancel_left e2⟩
  | cons x rest =>
    rw [pktL_cons, List.cons_append, pktL_cons] at e2
    have hm : x ∈ ls2 := by rw [e1]; simp
    obtain ⟨e3, _⟩ := pkt_split (by simp) (h2.ok x hm) e2
    exact absurd e3.symm (h2.ne x hm)
structure Cok (s : Str) (l : List Chg) (p : Str) : Prop where
  ok : OkC l
  ids : IdC l
  b : s = chB l ++ p
theorem cok_fl {s p : Str} {l : List Chg} (h : Cok s l p) : Flu s ((l.map chT).map tx) p := by
  refine ⟨fun x hx => chL_ok h.ok.1 h.ids x ?_, fun x hx => ?_, ?_⟩
  · unfold chL
    rw [List.map_append]
    exact List.mem_append_left _ hx
  · obtain ⟨u, hu, rfl⟩ := List.mem_map.1 hx
    obtain ⟨y, hy, rfl⟩ := List.mem_map.1 hu
    unfold tx
    rw [if_neg (chT_ne y)]
    simp
  · rw [h.b]
    unfold chB chL
    rw [List.map_append]
    rfl
theorem fl_ck {s r : Str} {ls : List Str} (h : Flu s ls r) (l : List Chg) : Ck (pktL (ls ++ [[]])) l ↔ Cok s l r := by
  constructor
  · intro k
    exact ⟨k.ok, k.ids, by rw [h.b, k.b]⟩
  · intro k
    refine ⟨k.ok, k.ids, ?_⟩
    have := h.b.symm.trans k.b
    exact List.append_cancel_right this
theorem cok_r {s r p : Str} {ls : List Str} {l : List Chg} (h : Flu s ls r) (k : Cok s l p) : p = r := ((fl_one (cok_fl k) h).2)
theorem lnCL_chT : ∀ {l : List Chg}, (∀ x ∈ l, okC x) → IdC l → ((l.map chT).map tx).flatMap lnC = l
  | [], _, _ => rfl
  | x :: l, h, hi => by
    have ih := lnCL_chT (l := l) (fun y hy => h y (by simp [hy])) (fun y hy => hi y (by simp [hy]))
    have e : (List.map chT (x :: l)).map tx = tx (chT x) :: (l.map chT).map tx := rfl
    rw [e, List.flatMap_cons, ih, lnC_chT (h x (by simp)) (hi x (by simp))]
    rfl
theorem cok_doc {s r p : Str} {ls : List Str} {l : List Chg} (h : Flu s ls r) (k : Cok s l p) : ls.flatMap lnC = l := by
  rw [← (fl_one (cok_fl k) h).1, lnCL_chT k.ok.1 k.ids]
theorem cok_one {s p p2 : Str} {l l2 : List Chg} (h : Cok s l p) (h2 : Cok s l2 p2) : l = l2 ∧ p = p2 := by
  have f := cok_fl h
  exact ⟨by rw [← cok_doc f h, ← cok_doc f h2], (cok_r f h2).symm⟩
theorem fl_lines {ls : List Str} (h : okL ls) : okL (ls ++ [[]]) := fun x hx => by
  rcases List.mem_append.1 hx with hx | hx
  · exact h x hx
  · rw [List.mem_singleton.1 hx]; simp
end Go.Proofs.YtijeogdnjeamaaaGreatDoor
namespace Go.Proofs.YtijeogdnjeamaaaGreatDoor
open Go.RowKit
set_option linter.unusedVariables false
set_option linter.unusedSimpArgs false
theorem range_ch {W : World} {b o : Nat} {x : Chg} (hi : IdW x.2.1 ∧ IdW x.2.2) (h : W.rangeAt b o (encCh x)) : W.cell? ⟨b, o, none⟩ = some (sV x.1) ∧ W.rangeAt b (o + 1) (row .u8 x.2.1) ∧ W.rangeAt b (o + 21) (row .u8 x.2.2) := by
  refine ⟨h 0 _ rfl, fun j v hv => ?_, fun j v hv => ?_⟩
  · have hj : j < (row .u8 x.2.1).length := (List.getElem?_eq_some_iff.1 hv).1
    have := h (j + 1) v (by
      unfold encCh
      rw [List.getElem?_cons_succ, List.getElem?_append_left hj]
      exact hv)
    rw [← this]
    congr 2
    omega
  · have := h (j + 21) v (by
      unfold encCh
      rw [List.getElem?_cons_succ, List.getElem?_append_right (by rw [row_len, hi.1.1]; omega), row_len, hi.1.1, Nat.add_sub_cancel]
      exact hv)
    rw [← this]
    congr 2
    omega
structure Q45 (G k c : Nat) (X : ByteArray) (O N : List Value) (W : World) : Prop where
  c0 : W.cell? ⟨G, 0, none⟩ = some (.string X)
  c2 : W.cell? ⟨k, 0, none⟩ = some (.func (.func 78) #[] #[.pointer (some ⟨c, 0, none⟩)])
  r1 : W.rangeAt G 1 O
  r2 : W.rangeAt G 21 N
abbrev chV (x : Chg) : Value := .agg (encCh x).toArray
def PostWc (x : Chg) (c p g n : Nat) (S : Str → Prop) (w : World) (e : Ending) (w' : World) : Prop :=
  w.grownBy w' (some g) ∧ ((¬ (okC x ∧ ¬ S x.1) ∧ ∃ u, e = .returned (.tuple #[.string u, .iface 37 (.int .i64 111)])) ∨ ((okC x ∧ ¬ S x.1) ∧ e = .returned (.tuple #[.string ⟨(chT x).toArray⟩, .nilIface]) ∧ OnS w' c p g (n + 1) (fun y => y = x.1 ∨ S y)))
theorem Tryz.results45 : Tryz.f45.results = #[.tmp 3, .tmp 4] := by kernel_rfl
theorem size96 : (Tryz.prog.info? 96).map (·.size) = some 41 := by kernel_rfl
set_option maxRecDepth 20000 in
set_option maxHeartbeats 1000000 in
theorem writeChF_any {w : World} {c p g n k : Nat} {S : Str → Prop} (h : OnS w c p g n S) (hn : n ≤ 100000) (hk : Boxed w k 92 (onmF c)) (hgk : g ≠ k) (x : Chg) (hl : x.1.length ≤ 1000000000000000) (hi : IdW x.2.1 ∧ IdW x.2.2) (hm : Nm.Mx w) :
    Calls Tryz.prog 45 #[chV x, .pointer (some ⟨k, 0, none⟩)] w (PostWc x c p g n S w) := by
  obtain ⟨X, HX⟩ : ∃ X : ByteArray, Hid (⟨x.1.toArray⟩ = X) := ⟨_, hid rfl⟩
  obtain ⟨G, HG⟩ : ∃ G, Hid (w.heap.size = G) := ⟨_, rfl⟩
  obtain ⟨Y, HY⟩ : ∃ S : List Value, Hid (encCh x = S) := ⟨_, rfl⟩
  obtain ⟨O, HO⟩ : ∃ S : List Value, Hid (row .u8 x.2.1 = S) := ⟨_, rfl⟩
  obtain ⟨M, HM⟩ : ∃ S : List Value, Hid (row .u8 x.2.2 = S) := ⟨_, rfl⟩
  have hiO : (Tryz.prog.info? 68).map (·.size) = some O.length := by rw [← HO.out, row_len, hi.1.1]; exact size68
  have hiM : (Tryz.prog.info? 68).map (·.size) = some M.length := by rw [← HM.out, row_len, hi.2.1]; exact size68
  obtain ⟨w1, HW1⟩ : ∃ u, Hid (w.alloc (.cells Y.toArray 96) = u) := ⟨_, rfl⟩
  obtain ⟨Oh, HOH⟩ : ∃ W : ByteArray, Hid (⟨(hxS x.2.1).toArray⟩ = W) := ⟨_, hid rfl⟩
  obtain ⟨Mh, HMH⟩ : ∃ W : ByteArray, Hid (⟨(hxS x.2.2).toArray⟩ = W) := ⟨_, hid rfl⟩
  obtain ⟨Z1, HZ1⟩ : ∃ Z : ByteArray, Hid (Oh ++ (⟨#[32]⟩ : ByteArray) = Z) := ⟨_, hid rfl⟩
  obtain ⟨Z2, HZ2⟩ : ∃ Z : ByteArray, Hid (Z1 ++ Mh = Z) := ⟨_, hid rfl⟩
  obtain ⟨Z3, HZ3⟩ : ∃ Z : ByteArray, Hid (Z2 ++ (⟨#[32]⟩ : ByteArray) = Z) := ⟨_, hid rfl⟩
  obtain ⟨Z4, HZ4⟩ : ∃ Z : ByteArray, Hid (Z3 ++ X = Z) := ⟨_, hid rfl⟩
  have HZW : Hid ((⟨(chT x).toArray⟩ : ByteArray) = Z4) := hid (by
    rw [← HZ4.out, ← HZ3.out, ← HZ2.out, ← HZ1.out, ← HOH.out, ← HMH.out, ← HX.out, show (⟨#[32]⟩ : ByteArray) = ⟨([32] : Str).toArray⟩ from rfl, str_app, str_app, str_app, str_app]
    rfl)
  have h1b : (⟨#[32]⟩ : ByteArray).size = 1 := rfl
  have hX : X.size ≤ 1000000000000000 := by rw [← HX.out, txt_len]; exact hl
  have hOh : Oh.size = 40 := by rw [← HOH.out, txt_len]; exact hxS_len _ hi.1
  have hMh : Mh.size = 40 := by rw [← HMH.out, txt_len]; exact hxS_len _ hi.2
  have hZ1 : Z1.size = 41 := by rw [← HZ1.out, ByteArray.size_append, hOh]; rfl
  have hZ2 : Z2.size = 81 := by rw [← HZ2.out, ByteArray.size_append, hZ1, hMh]
  have hZ3 : Z3.size = 82 := by rw [← HZ3.out, ByteArray.size_append, hZ2]; rfl
  have hg1 : w.grownBy w1 none := by rw [← HW1.out]; exact World.grownBy_alloc _ _ _
  have hgd : w.grownBy w1.drew none := ⟨hg1.os, hg1.tape, hg1.output, hg1.size, hg1.block⟩
  have HON : Hid (∀ W, w.grownBy W none → OnS W c p g n S) := hid (fun W hW => h.kept hW (by simp) (by simp) (by simp))
  have HCG : Hid (g < G) := hid (by rw [← HG.out]; exact h.ss.lt)
  have hrr : w1.rangeAt G 0 (encCh x) := by rw [← HW1.out, ← HG.out, HY.out]; exact range_row (heap_alloc_new w _)
  obtain ⟨q0, q1, q2⟩ := range_ch hi hrr
  rw [HO.out] at q1
  rw [HM.out] at q2
  rw [sV_out, HX.out] at q0
  have HQ0 : Hid (∀ W, w1.drew.grownBy W (some g) → Q45 G k c X O M W) := hid (fun W hW => by
    have hne : some G ≠ some g := fun e => by cases e; exact Nat.lt_irrefl _ HCG.out
    have hd0 : w1.drew.cell? ⟨G, 0, none⟩ = some (.string X) := q0
    exact ⟨hW.cell hd0 hne, hW.cell (hgd.cell hk.cell (by simp)) (fun e => hgk (by cases e; rfl)), fun j v hv => by
      have h1 : w1.drew.cell? ⟨G, 1 + j, none⟩ = some v := by have := q1 j v hv; simpa using this
      exact hW.cell h1 hne, fun j v hv => by
      have h1 : w1.drew.cell? ⟨G, 21 + j, none⟩ = some v := by have := q2 j v hv; simpa using this
      exact hW.cell h1 hne⟩)
  have HGD : Hid (w.grownBy w1.drew none) := hid hgd
  have C30a : Hid (∀ W, Calls Tryz.prog 30 #[.agg O.toArray] W fun e w' => e = .returned (.string Oh) ∧ Below W.heap.size W w') := hid (fun W => by rw [← HO.out, ← HOH.out]; exact hexP _ hi.1 W)
  have C30b : Hid (∀ W, Calls Tryz.prog 30 #[.agg M.toArray] W fun e w' => e = .returned (.string Mh) ∧ Below W.heap.size W w') := hid (fun W => by rw [← HM.out, ← HMH.out]; exact hexP _ hi.2 W)
  have C78 : Hid (∀ W, w.grownBy W none → Calls Tryz.prog 78 #[.string X, .pointer (some ⟨c, 0, none⟩)] W (PostNm x.1 c p g n S W)) := hid (fun W hW => by
    rw [← HX.out]
    exact namedF_any (HON.out W hW) hn x.1 hl (Mx_kept hm hW (by simp)))
  have al1 : w.alloc (.cells Y.toArray 96) = w1 := HW1.out
  have hs0 : w.heap.size = G := HG.out
  unfold chV
  rw [HY.out]
  unfold PostWc
  rw [HZW.out]
  clear h hk hgk hm hg1 hgd hrr q0 q1 q2 hl hi
  go_enter Tryz.func45, Tryz.ntmps45
  go_wp2_with fail
  refine wp_region_held_drew (S := Q45 G k c X O M) (by kernel_rfl) (HQ0.out _ (World.grownBy.refl _ _)) (fun hHeld => ?_)
  generalize w1.drew = u0 at hHeld HQ0 HGD ⊢
  refine takeL (i := 0) (v := ?_) rfl (by kernel_rfl) (by kernel_rfl) (by kernel_rfl) (fun _ _ _ h => h) (Or.inl ⟨by rfl, ?_⟩) hHeld ?_
  rotate_left
  · rintro w' ⟨c0, c2, r1, r2⟩; go_simp; rfl
  try simp only [Act.put, List.setIfInBounds_toArray, List.set_cons_zero, List.set_cons_succ]
  refine takeL (i := 1) (v := .agg O.toArray) rfl (by kernel_rfl) (by kernel_rfl) (by kernel_rfl) (fun _ _ _ h => h) (yieldsIf_load_mid (by kernel_rfl) 68 _ rfl G (1) (by rfl) O _ (fun w' h => h.r1) Tryz.underlying68 rfl hiO) hHeld ?_
  try simp only [Act.put, List.setIfInBounds_toArray, List.set_cons_zero, List.set_cons_succ]
  refine takeL (i := 4) (v := ?_) rfl (by kernel_rfl) (by kernel_rfl) (by kernel_rfl) (fun _ _ _ h => h) (Or.inl ⟨by rfl, ?_⟩) hHeld ?_
  rotate_left
  · rintro w' ⟨c0, c2, r1, r2⟩; go_simp; rfl
  try simp only [Act.put, List.setIfInBounds_toArray, List.set_cons_zero, List.set_cons_succ]
  refine takeL (i := 5) (v := .agg M.toArray) rfl (by kernel_rfl) (by kernel_rfl) (by kernel_rfl) (fun _ _ _ h => h) (yieldsIf_load_mid (by kernel_rfl) 68 _ rfl G (21) (by rfl) M _ (fun w' h => h.r2) Tryz.underlying68 rfl hiM) hHeld ?_
  try simp only [Act.put, List.setIfInBounds_toArray, List.set_cons_zero, List.set_cons_succ]
  refine takeL (i := 9) (v := ?_) rfl (by kernel_rfl) (by kernel_rfl) (by kernel_rfl) (fun _ _ _ h => h) (Or.inl ⟨by rfl, ?_⟩) hHeld ?_
  rotate_left
  · rintro w' ⟨c0, c2, r1, r2⟩; go_simp; rfl
  try simp only [Act.put, List.setIfInBounds_toArray, List.set_cons_zero, List.set_cons_succ]
  refine takeL (i := 10) (v := ?_) rfl (by kernel_rfl) (by kernel_rfl) (by kernel_rfl) (fun _ _ _ h => h) (Or.inl ⟨by rfl, ?_⟩) hHeld ?_
  rotate_left
  · rintro w' ⟨c0, c2, r1, r2⟩; go_simp; rfl
  try simp only [Act.put, List.setIfInBounds_toArray, List.set_cons_zero, List.set_cons_succ]
  refine takeL (i := 12) (v := ?_) rfl (by kernel_rfl) (by kernel_rfl) (by kernel_rfl) (fun _ _ _ h => h) (Or.inl ⟨by rfl, ?_⟩) hHeld ?_
  rotate_left
  · rintro w' ⟨c0, c2, r1, r2⟩; go_simp; rfl
  try simp only [Act.put, List.setIfInBounds_toArray, List.set_cons_zero, List.set_cons_succ]
  refine takeL (i := 13) (v := ?_) rfl (by kernel_rfl) (by kernel_rfl) (by kernel_rfl) (fun _ _ _ h => h) (Or.inl ⟨by rfl, ?_⟩) hHeld ?_
  rotate_left
  · rintro w' ⟨c0, c2, r1, r2⟩; go_simp; rfl
  try simp only [Act.put, List.setIfInBounds_toArray, List.set_cons_zero, List.set_cons_succ]
  refine takeL (i := 14) (v := ?_) rfl (by kernel_rfl) (by kernel_rfl) (by kernel_rfl) (fun _ _ _ h => h) (Or.inl ⟨by rfl, ?_⟩) hHeld ?_
  rotate_left
  · rintro w' ⟨c0, c2, r1, r2⟩; go_simp; rfl
  try simp only [Act.put, List.setIfInBounds_toArray, List.set_cons_zero, List.set_cons_succ]
  refine wpAnyH_ready (rs := [2]) (by kernel_rfl) (by simp) ?_
  refine consL rfl (fun KK hKK => ?_) AllReadyH.nil
  refine step_callv (by rfl) 30 [.tmp 6] _ [.agg O.toArray] _ (by rfl) (by rfl) (enter30 _) (C30a.out _) ?_
  rintro ev w2 ⟨rfl, hb⟩
  refine ⟨_, rfl, ?_⟩
  have HG2 : Hid (w.grownBy w2 none) := hid (HGD.out.trans (grown_of_below hb _))
  have HU2 : Hid (u0.grownBy w2 none) := hid (grown_of_below hb _)
  refine hKK.out _ _ (HQ0.out _ (HU2.out.but _)) (fun hHeld2 => ?_)
  clear hKK KK hb
  try simp only [Act.put, List.setIfInBounds_toArray, List.set_cons_zero, List.set_cons_succ]
  refine takeL (i := 3) (v := .string Z1) rfl (by kernel_rfl) (by kernel_rfl) (by kernel_rfl) (fun _ _ _ h => h) (Or.inl ⟨by rfl, ?_⟩) hHeld2 ?_
  · rintro w' ⟨c0, c2, r1, r2⟩; rw [← HZ1.out]; go_simp; first | done | omega | rfl
  try simp only [Act.put, List.setIfInBounds_toArray, List.set_cons_zero, List.set_cons_succ]
  refine wpAnyH_ready (rs := [6]) (by kernel_rfl) (by simp) ?_
  refine consL rfl (fun KK hKK => ?_) AllReadyH.nil
  refine step_callv (by rfl) 30 [.tmp 10] _ [.agg M.toArray] _ (by rfl) (by rfl) (enter30 _) (C30b.out _) ?_
  rintro ev w4 ⟨rfl, hb⟩
  refine ⟨_, rfl, ?_⟩
  have HG4 : Hid (w.grownBy w4 none) := hid (HG2.out.trans (grown_of_below hb _))
  have HU4 : Hid (u0.grownBy w4 none) := hid (HU2.out.trans (grown_of_below hb _))
  refine hKK.out _ _ (HQ0.out _ (HU4.out.but _)) (fun hHeld4 => ?_)
  clear hKK KK hb
  try simp only [Act.put, List.setIfInBounds_toArray, List.set_cons_zero, List.set_cons_succ]
  refine takeL (i := 7) (v := .string Z2) rfl (by kernel_rfl) (by kernel_rfl) (by kernel_rfl) (fun _ _ _ h => h) (Or.inl ⟨by rfl, ?_⟩) hHeld4 ?_
  · rintro w' ⟨c0, c2, r1, r2⟩; rw [← HZ2.out]; go_simp; first | done | omega | rfl
  try simp only [Act.put, List.setIfInBounds_toArray, List.set_cons_zero, List.set_cons_succ]
  refine takeL (i := 8) (v := .string Z3) rfl (by kernel_rfl) (by kernel_rfl) (by kernel_rfl) (fun _ _ _ h => h) (Or.inl ⟨by rfl, ?_⟩) hHeld4 ?_
  · rintro w' ⟨c0, c2, r1, r2⟩; rw [← HZ3.out]; go_simp; first | done | omega | rfl
  try simp only [Act.put, List.setIfInBounds_toArray, List.set_cons_zero, List.set_cons_succ]
  refine takeL (i := 11) (v := .string Z4) rfl (by kernel_rfl) (by kernel_rfl) (by kernel_rfl) (fun _ _ _ h => h) (Or.inl ⟨by rfl, ?_⟩) hHeld4 ?_
  · rintro w' ⟨c0, c2, r1, r2⟩; rw [← HZ4.out]; go_simp; first | done | omega | rfl
  try simp only [Act.put, List.setIfInBounds_toArray, List.set_cons_zero, List.set_cons_succ]
  refine wpAnyH_ready (rs := [15]) (by kernel_rfl) (by simp) ?_
  refine consL rfl (fun KK hKK => ?_) AllReadyH.nil
  refine step_callf (by rfl) (.tmp 17) 78 [.pointer (some ⟨c, 0, none⟩)] [.tmp 19] _ [.string X] _ (by rfl) (by rfl) (by rfl) (enter78 _ _) (C78.out _ HG4.out) ?_
  rintro ev w3 ⟨hg3, ⟨hs, rfl⟩ | ⟨hs, rfl, hon⟩⟩
  · refine ⟨_, rfl, ?_⟩
    have HG3 : Hid (w.grownBy w3 (some g)) := hid ((HG4.out.but _).trans hg3)
    have HSX : Hid (¬ (okC x ∧ ¬ S x.1)) := hid hs
    refine hKK.out _ _ (HQ0.out _ ((HU4.out.but _).trans hg3)) (fun hHeld3 => ?_)
    clear hKK KK hg3 hs
    try simp only [Act.put, List.setIfInBounds_toArray, List.set_cons_zero, List.set_cons_succ]
    refine takeL (i := 16) (v := ?_) rfl (by kernel_rfl) (by kernel_rfl) (by kernel_rfl) (fun _ _ _ h => h) (Or.inl ⟨by rfl, ?_⟩) hHeld3 ?_
    rotate_left
    · rintro w' ⟨c0, c2, r1, r2⟩; go_simp; rfl
    try simp only [Act.put, List.setIfInBounds_toArray, List.set_cons_zero, List.set_cons_succ]
    refine takeL (i := 17) (v := ?_) rfl (by kernel_rfl) (by kernel_rfl) (by kernel_rfl) (fun _ _ _ h => h) (Or.inl ⟨by rfl, ?_⟩) hHeld3 ?_
    rotate_left
    · rintro w' ⟨c0, c2, r1, r2⟩; go_simp; rfl
    try simp only [Act.put, List.setIfInBounds_toArray, List.set_cons_zero, List.set_cons_succ]
    refine wpAnyH_done (by kernel_rfl) ?_ _
    clear hHeld hHeld2 hHeld4 hHeld3
    go_wp2
    refine bodyPost_ret (results_tmp2 Tryz.results45 _ _ _) rfl ?_
    exact ⟨HG3.out, .inl ⟨HSX.out, _, rfl⟩⟩
  · refine ⟨_, rfl, ?_⟩
    have HG3 : Hid (w.grownBy w3 (some g)) := hid ((HG4.out.but _).trans hg3)
    have HSX : Hid (okC x ∧ ¬ S x.1) := hid hs
    have HO3 := hid hon
    refine hKK.out _ _ (HQ0.out _ ((HU4.out.but _).trans hg3)) (fun hHeld3 => ?_)
    clear hKK KK hg3 hs hon
    try simp only [Act.put, List.setIfInBounds_toArray, List.set_cons_zero, List.set_cons_succ]
    refine takeL (i := 16) (v := ?_) rfl (by kernel_rfl) (by kernel_rfl) (by kernel_rfl) (fun _ _ _ h => h) (Or.inl ⟨by rfl, ?_⟩) hHeld3 ?_
    rotate_left
    · rintro w' ⟨c0, c2, r1, r2⟩; go_simp; rfl
    try simp only [Act.put, List.setIfInBounds_toArray, List.set_cons_zero, List.set_cons_succ]
    refine takeL (i := 17) (v := ?_) rfl (by kernel_rfl) (by kernel_rfl) (by kernel_rfl) (fun _ _ _ h => h) (Or.inl ⟨by rfl, ?_⟩) hHeld3 ?_
    rotate_left
    · rintro w' ⟨c0, c2, r1, r2⟩; go_simp; rfl
    try simp only [Act.put, List.setIfInBounds_toArray, List.set_cons_zero, List.set_cons_succ]
    refine wpAnyH_done (by kernel_rfl) ?_ _
    clear hHeld hHeld2 hHeld4 hHeld3
    go_wp2
    refine bodyPost_ret (results_tmp2 Tryz.results45 _ _ _) rfl ?_
    exact ⟨HG3.out, .inr ⟨HSX.out, rfl, HO3.out⟩⟩
end Go.Proofs.YtijeogdnjeamaaaGreatDoor
