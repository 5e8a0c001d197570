/- 'writeList' of ids, 'writeIDs'. -/
import Derived.Test.YtijeogdnjeamaaaGreatDoorWeC
import Derived.Test.YtijeogdnjeamaaaGreatDoorWeE
namespace Go.Proofs.YtijeogdnjeamaaaGreatDoor
open Go.RowKit
set_option linter.unusedVariables false
set_option linter.unusedSimpArgs false
theorem SI.congr {w : World} {g n : Nat} {S S' : List Int → Prop} (h : SI w g n S) (he : ∀ y, S y ↔ S' y) : SI w g n S' := by
  obtain ⟨D, h1, h2⟩ := h
  exact ⟨D, h1, fun x kl hk => (h2 x kl hk).trans (he x)⟩
theorem On.congr {w : World} {p g n : Nat} {S S' : List Int → Prop} (h : On w p g n S) (he : ∀ y, S y ↔ S' y) : On w p g n S' := ⟨h.bx, h.si.congr he, h.ne⟩
theorem own_keep {w w' : World} {row : Option Nat} {B e k n : Nat} {v : Value} {xs : List Value} (h : w.ownsRow B e k v n xs) (hg : w.grownBy w' row) (hr : ∀ j, row = some j → j < B) : w'.ownsRow B e k v n xs := by
  refine h.kept hg ?_
  cases hv : v.ownBlock with
  | none => exact .inl rfl
  | some j =>
    right
    intro e
    have h1 := (own_lt h j hv).1
    have h2 := hr j e.symm
    omega
theorem own_more {W : World} {B : Nat} {v : Value} {l : List Str} (h : W.ownsRow B 9 1 v l.length (l.flatMap encS)) (hle : B ≤ W.heap.size) (hn : l.length ≤ 20000) (s : Str) (u : ByteArray) (hu : ⟨s.toArray⟩ = u) (ty : TypeId) :
    ∃ v' W', (Builtin.append_ #[63, 63] ty #[v, .slice (some ⟨W.heap.size, 0, none⟩) 1 1]).run Tryz.prog (W.alloc (.cells #[.string u] 9)) = .ok v' W' ∧ W'.ownsRow B 9 1 v' (l ++ [s]).length ((l ++ [s]).flatMap encS) ∧ (W.alloc (.cells #[.string u] 9)).grownBy W' v.ownBlock := by
  obtain ⟨i, hi, hz0, hz1, hz2⟩ := info_parts info9
  have h' := own_keep h (World.grownBy_alloc W (.cells #[.string u] 9) none) (fun j e => by cases e)
  obtain ⟨v', W', hr, h1, h2, _⟩ := run_append_own_at (P := Tryz.prog) (W.alloc (.cells #[.string u] 9)) B 63 ty 9 i _ 1 16 und63s hi hz0 hz1 hz2 rfl (by decide) v _ _ h' ⟨W.heap.size, 0, none⟩ 1 1 [sV s] rfl (fun j x hj => by
    cases j with
    | zero =>
      cases hj
      rw [addr_add]
      have := cell_of_row (W.alloc (.cells #[.string u] 9)) W.heap.size 0 _ 9 (0, 0) (heap_alloc_new W _)
      rw [Nat.zero_add, this, ← hu]
      rfl
    | succ j => simp at hj) (fun x hx => by rw [List.mem_singleton.1 hx]; rfl) (by unfold maxLen; omega) (by omega) (by rw [size_alloc]; omega)
  refine ⟨v', W', hr, ?_, h2⟩
  rw [List.length_append, List.flatMap_append]
  exact h1
theorem there_off {w : World} {g n : Nat} {cs : Array Value} {t : TypeId} (h : w.heap[g]? = some (.cells cs t (0, 0))) (o : Nat) (hn : o + n ≤ cs.size) : w.there g o n := fun j hj => by
  refine ⟨?_, frozen_of_row w g (o + j) _ _ h⟩
  rw [cell_of_row w g (o + j) _ _ _ h, Array.getElem?_eq_getElem (by omega)]
  rfl
theorem row_oneC (x : List Int) : ∀ v ∈ row .u8 x, v.oneCell' = true := fun v hv => by obtain ⟨n, _, rfl⟩ := List.mem_map.1 hv; rfl
/-- An id's variable. -/
theorem id_new (w : World) (t : TypeId) (zr : Array Value) (hz : zr = (row .u8 z20).toArray) (Y : List Value) (hY : Y.length = 20) : ∃ w', (w.alloc (.cells zr t)).setCells w.heap.size 0 Y.toArray.toList = w' ∧ (w.alloc (.cells zr t)).there w.heap.size 0 Y.toArray.size ∧ Below w.heap.size w w' ∧ w'.rangeAt w.heap.size 0 Y := by
  have ht : (w.alloc (.cells zr t)).there w.heap.size 0 Y.toArray.size := there_off (heap_alloc_new w _) 0 (by rw [List.size_toArray, hY, hz]; simp [row, z20])
  refine ⟨_, rfl, ht, below_setCells (Nat.le_refl _) _ _ _ _ ((Below.refl _ w).alloc (Nat.le_refl _) _), World.rangeAt_setCells_same _ _ 0 _ (by rwa [List.size_toArray] at ht)⟩
structure Wl (w0 wr : World) (B0 B1 : Nat) (v : Value) (ts : List Str) (p g q r n : Nat) (Wd : ByteArray) (S : List Int → Prop) : Prop where
  bl : Below B0 w0 wr
  own : wr.ownsRow B1 9 1 v ts.length (ts.flatMap encS)
  le : B1 ≤ wr.heap.size
  on : On wr p g n S
  cq : wr.cell? ⟨q, 0, none⟩ = some (.string Wd)
  cr : wr.cell? ⟨r, 0, none⟩ = some (onF p)
theorem Wl.below {w0 wr w' : World} {B0 B1 : Nat} {v : Value} {ts : List Str} {p g q r n : Nat} {Wd : ByteArray} {S : List Int → Prop} (h : Wl w0 wr B0 B1 v ts p g q r n Wd S) (hB : B0 ≤ B1) (hb : Below wr.heap.size wr w') : Wl w0 w' B0 B1 v ts p g q r n Wd S := by
  have hg := grown_of_below hb none
  have := h.le
  exact ⟨h.bl.trans (hb.mono (by omega)), own_keep h.own hg (fun j e => by cases e), Nat.le_trans h.le hb.size, h.on.below hb, hg.cell h.cq (by simp), hg.cell h.cr (by simp)⟩
/-- Behind the closure's call. -/
theorem Wl.turn {w0 wr w' : World} {B0 B1 : Nat} {v : Value} {ts : List Str} {p g q r n : Nat} {Wd : ByteArray} {S : List Int → Prop} (h : Wl w0 wr B0 B1 v ts p g q r n Wd S) (hB : B0 ≤ B1) (hg : B0 ≤ g ∧ g < B1 ∧ g ≠ q ∧ g ≠ r) (hgr : wr.grownBy w' (some g)) {n' : Nat} {S' : List Int → Prop} (hon : On w' p g n' S') : Wl w0 w' B0 B1 v ts p g q r n' Wd S' := by
  have := h.le
  exact ⟨h.bl.grown hgr (by omega) (fun k e => by cases e; exact hg.1), own_keep h.own hgr (fun j e => by cases e; exact hg.2.1), Nat.le_trans h.le hgr.size, hon, hgr.cell h.cq (fun e => hg.2.2.1 (by cases e; rfl)), hgr.cell h.cr (fun e => hg.2.2.2 (by cases e; rfl))⟩
theorem Wl.more {w0 wr : World} {B0 B1 : Nat} {v : Value} {ts : List Str} {p g q r n : Nat} {Wd : ByteArray} {S : List Int → Prop} (h : Wl w0 wr B0 B1 v ts p g q r n Wd S) (hB : B0 ≤ B1) (hg : g < B1 ∧ p < B1 ∧ q < B1 ∧ r < B1) (hn : ts.length ≤ 20000) (s : Str) (u : ByteArray) (hu : ⟨s.toArray⟩ = u) (ty : TypeId) :
    ∃ v' W', (Builtin.append_ #[63, 63] ty #[v, .slice (some ⟨wr.heap.size, 0, none⟩) 1 1]).run Tryz.prog (wr.alloc (.cells #[.string u] 9)) = .ok v' W' ∧ Wl w0 W' B0 B1 v' (ts ++ [s]) p g q r n Wd S := by
  obtain ⟨v', W', hr, ho, hgr⟩ := own_more h.own h.le hn s u hu ty
  have h1 := h.below hB ((Below.refl _ wr).alloc (Nat.le_refl _) (.cells #[.string u] 9))
  have hk : ∀ j, v.ownBlock = some j → B1 ≤ j := fun j e => (own_lt h.own j e).1
  have := h1.le
  refine ⟨v', W', hr, h1.bl.grown hgr (by omega) (fun k e => by have := hk k e; omega), ho, Nat.le_trans h1.le hgr.size, h1.on.kept hgr (fun e => by have := hk _ e; omega) (fun e => by have := hk _ e; omega), hgr.cell h1.cq (fun e => by have := hk _ e.symm; have := hg.2.2.1; simp at *; omega), hgr.cell h1.cr (fun e => by have := hk _ e.symm; have := hg.2.2.2; simp at *; omega)⟩
def PostWL (word : Str) (l : List (List Int)) (w0 : World) (B0 : Nat) (e : Ending) (w' : World) : Prop :=
  Below B0 w0 w' ∧ B0 ≤ w'.heap.size ∧ ((l.Nodup ∧ ∃ v, e = .returned (.tuple #[v, .nilIface]) ∧ w'.ownsRow B0 9 1 v (idT word l).length ((idT word l).flatMap encS)) ∨ (¬ l.Nodup ∧ e = .returned (.tuple #[.slice none 0 0, .iface 37 (.int .i64 111)])))
theorem Tryz.results72 : Tryz.f72.results = #[.tmp 6, .tmp 7] := by kernel_rfl
theorem nodup_snoc {l : List (List Int)} {x : List Int} (h : l.Nodup) (hx : x ∉ l) : (l ++ [x]).Nodup := by
  rw [List.nodup_append]
  refine ⟨h, by simp, ?_⟩
  intro a ha b hb e
  rw [List.mem_singleton.1 hb] at e
  exact hx (e ▸ ha)
theorem not_nodup {l : List (List Int)} {i : Nat} {x : List Int} (hi : i < l.length) (he : l.getD i [] = x) (hx : x ∈ l.take i) : ¬ l.Nodup := by
  intro h
  have h1 : l.take (i + 1) = l.take i ++ [x] := by rw [take_snocG [] l i hi, he]
  have h2 : (l.take (i + 1)).Nodup := h.sublist (List.take_sublist _ _)
  rw [h1, List.nodup_append] at h2
  exact h2.2.2 x hx x (by simp) rfl
set_option maxRecDepth 20000 in
set_option maxHeartbeats 4000000 in
theorem writeList_any {w w0 : World} {B0 p g q r : Nat} (word : Str) (hwl : word.length ≤ 10) (hb : Below B0 w0 w) (h0 : w0.heap.size = B0) (hon : On w p g 0 (fun _ => False)) (hq : w.cell? ⟨q, 0, none⟩ = some (.string ⟨word.toArray⟩)) (hr : w.cell? ⟨r, 0, none⟩ = some (onF p)) (hql : q < w.heap.size) (hrl : r < w.heap.size) (hg0 : B0 ≤ g) (hgq : g ≠ q) (hgr : g ≠ r)
    (a : Option Addr) (cap : Nat) (l : List (List Int)) (hP : Pa w0 a cap l) (hl : IdL l) (hn : l.length ≤ 1000) :
    Calls Tryz.prog 72 #[.slice a l.length cap, .int .i64 5000, .func (.func 73) #[] #[.pointer (some ⟨q, 0, none⟩), .pointer (some ⟨r, 0, none⟩)]] w (PostWL word l w0 B0) := by
  obtain ⟨m, HM⟩ : ∃ n, Hid (l.length = n) := ⟨_, rfl⟩
  obtain ⟨B1, HB1⟩ : ∃ n, Hid (w.heap.size = n) := ⟨_, rfl⟩
  obtain ⟨Wd, HWD⟩ : ∃ W : ByteArray, Hid (⟨word.toArray⟩ = W) := ⟨_, hid rfl⟩
  rw [HWD.out] at hq
  have hm : m ≤ 1000 := by rw [← HM.out]; exact hn
  have hmi : ¬ (5000 : Int) < (m : Int) := by omega
  have HLT : Hid (B0 ≤ B1 ∧ g < B1 ∧ p < B1 ∧ q < B1 ∧ r < B1) := hid (by
    have h1 := hb.size
    have h2 := hon.si.lt
    have h3 := hon.bx.lt
    have h4 := HB1.out
    omega)
  have HGC : Hid (B0 ≤ g ∧ g ≠ q ∧ g ≠ r) := hid ⟨hg0, hgq, hgr⟩
  have HPA : Hid (∀ W, Below B0 w0 W → Pa W a cap l) := hid (fun W hW => hP.below (by rw [h0]; exact hW))
  have HPL : Hid (0 < m → ∃ b off, a = some ⟨b, off, none⟩) := hid (fun h => by
    obtain ⟨b, off, e1, _⟩ := hP.at_ (by rw [HM.out]; exact h)
    exact ⟨b, off, e1⟩)
  have HIL := hid hl
  have S0 : Hid (Wl w0 w B0 B1 (.slice none 0 0) (idT word (l.take 0)) p g q r 0 Wd (fun y => y ∈ l.take 0)) := hid ⟨hb, ⟨rfl, .inl ⟨rfl, rfl⟩⟩, by rw [HB1.out]; exact Nat.le_refl _, hon.congr (fun y => by simp), hq, hr⟩
  obtain ⟨zr, HZR⟩ : ∃ z : Array Value, Hid (z = (row .u8 z20).toArray) := ⟨_, hid rfl⟩
  have hz68 : ∀ w : World, (zeroValue 68).run Tryz.prog w = .ok (.agg zr) w := fun w => by rw [HZR.out]; exact zero68 w
  have CF : Hid (∀ (W : World) (x : List Int) (Y : List Value) (i : Nat) (S : List Int → Prop), Hid (row .u8 x = Y) → IdW x → i ≤ 1000 → On W p g i S → W.cell? ⟨q, 0, none⟩ = some (.string Wd) → W.cell? ⟨r, 0, none⟩ = some (onF p) → B1 ≤ W.heap.size → Calls Tryz.prog 73 #[.agg Y.toArray, .pointer (some ⟨q, 0, none⟩), .pointer (some ⟨r, 0, none⟩)] W (PostWi word x p g i S W)) := hid (fun W x Y i S hY hx hi ho hcq hcr hle => by
    rw [← hY.out]
    have := HLT.out
    exact writeF_any word hwl ho (by omega) (by rw [HWD.out]; exact hcq) hcr (by omega) (by omega) HGC.out.2.1 HGC.out.2.2 hx)
  rw [HM.out]
  clear hb h0 hon hq hr hql hrl hg0 hgq hgr hP hl hn
  go_enter Tryz.func72, Tryz.ntmps72
  go_wp2_with fail
  go_loopg [8, 20] m (fun gg tv iv wr => ∃ i : Nat, i ≤ m ∧ gg = m - i ∧ iv = .int .i64 i ∧ Hid (Wl w0 wr B0 B1 tv (idT word (l.take i)) p g q r i Wd (fun y => y ∈ l.take i)) ∧ Hid ((l.take i).Nodup))
  case atStart => exact ⟨0, Nat.zero_le _, rfl, rfl, S0, hid (by simp)⟩
  case round =>
    obtain ⟨i, hi, hk, rfl, HS, HND⟩ := hrel
    by_cases hlt : i < m
    · have hlti : (i : Int) < (m : Int) := by omega
      obtain ⟨b, off, rfl⟩ := HPL.out (by omega)
      have hil : i < l.length := by rw [HM.out]; exact hlt
      obtain ⟨x, HX⟩ : ∃ x, Hid (l.getD i [] = x) := ⟨_, rfl⟩
      have HXW : Hid (IdW x) := hid (HIL.out x (by rw [← HX.out]; exact getD_mem l i _ hil))
      obtain ⟨Y, HY⟩ : ∃ R : List Value, Hid (row .u8 x = R) := ⟨_, rfl⟩
      have HYL : Hid (Y.length = 20) := hid (by rw [← HY.out, row_len]; exact HXW.out.1)
      have hiY : (Tryz.prog.info? 68).map (·.size) = some Y.length := by rw [HYL.out]; exact size68
      have RR : Hid (wr.rangeAt b (off + i * 20) Y) := hid (by
        obtain ⟨b', off', e1, _, e3⟩ := (HPA.out wr HS.out.bl).at_ (by rw [HM.out]; omega)
        cases e1
        have := e3 i hil
        rw [HX.out, HY.out] at this
        exact this)
      obtain ⟨P, HPP⟩ : ∃ P, Hid (wr.heap.size = P) := ⟨_, rfl⟩
      obtain ⟨w2, hw2, ht2, hb2, hr2⟩ := id_new wr 68 zr HZR.out Y HYL.out
      have HW2 : Hid (∀ W, wr.alloc (.cells zr 68) = W → W.setCells P 0 Y.toArray.toList = w2) := hid (fun W e => by rw [← e, ← HPP.out]; exact hw2)
      have T1 : Hid (∀ W, wr.alloc (.cells zr 68) = W → W.there P 0 Y.toArray.size) := hid (fun W e => by rw [← e, ← HPP.out]; exact ht2)
      have T2 : Hid ((Tryz.prog.info? 68).map (·.size) = some Y.toArray.size) := hid (by rw [List.size_toArray]; exact hiY)
      have T3 : Hid (Y.toArray.all (·.oneCell') = true) := hid (by rw [← HY.out]; exact all_oneCell_toArray (row_oneC _))
      have R2 : Hid (w2.rangeAt P 0 Y) := hid (by rw [← HPP.out]; exact hr2)
      have S2 : Hid (Wl w0 w2 B0 B1 u8 (idT word (l.take i)) p g q r i Wd (fun y => y ∈ l.take i)) := hid (HS.out.below HLT.out.1 hb2)
      obtain ⟨wa, HWA⟩ : ∃ W, Hid (wr.alloc (.cells zr 68) = W) := ⟨_, rfl⟩
      have al1 : wr.alloc (.cells zr 68) = wa := HWA.out
      have hsw : wr.heap.size = P := HPP.out
      have CC := CF.out w2 x Y i _ HY HXW.out (by omega) S2.out.on S2.out.cq S2.out.cr S2.out.le
      have HCC := hid CC
      have HTK : Hid (idT word (l.take (i + 1)) = idT word (l.take i) ++ [word ++ hxS x]) := hid (by rw [take_snocG [] l i hil, HX.out]; simp [idT])
      have HTX : Hid (l.take (i + 1) = l.take i ++ [x]) := hid (by rw [take_snocG [] l i hil, HX.out])
      have HNO : Hid (x ∈ l.take i → ¬ l.Nodup) := hid (fun h => not_nodup hil HX.out h)
      clear hw2 ht2 hb2 hr2 CC hil
      go_wp2_with (first
        | (refine wpList_load_mid rfl 68 _ rfl b (off + i * 20) rfl Y _ RR.out Tryz.underlying68 rfl hiY ?_)
        | (refine wpList_load_mid rfl 68 _ rfl P 0 rfl Y _ R2.out Tryz.underlying68 rfl hiY ?_)
        | (refine wpList_store_mid rfl 68 _ _ rfl P 0 Y.toArray rfl rfl (T1.out _ HWA.out) T2.out T3.out ?_; rw [HW2.out _ HWA.out])
        | fail)
      clear al1 hsw
      refine HCC.out.mono ?_
      rintro e w3 ⟨hg3, ⟨hs, u, rfl⟩ | ⟨hs, rfl, ho3⟩⟩
      · have HF : Hid (Below B0 w0 w3) := hid (S2.out.bl.grown hg3 (by have := S2.out.le; have := HLT.out; omega) (fun k e => by cases e; exact HGC.out.1))
        have HFS : Hid (B0 ≤ w3.heap.size) := hid (by have := S2.out.le; have := HLT.out; have := hg3.size; omega)
        have HNN := hid (HNO.out hs)
        clear hg3 hs
        go_wp2
        refine bodyPost_ret (results_tmp2 Tryz.results72 _ _ _) rfl ?_
        exact ⟨HF.out, HFS.out, .inr ⟨HNN.out, rfl⟩⟩
      · have S3 : Hid (Wl w0 w3 B0 B1 u8 (idT word (l.take i)) p g q r (i + 1) Wd (fun y => y ∈ l.take (i + 1))) := hid (S2.out.turn HLT.out.1 ⟨HGC.out.1, HLT.out.2.1, HGC.out.2⟩ hg3 (ho3.congr (fun y => by rw [HTX.out]; simp [or_comm])))
        have HN3 : Hid ((l.take (i + 1)).Nodup) := hid (by rw [HTX.out]; exact nodup_snoc HND.out hs)
        obtain ⟨Z, HZ⟩ : ∃ Z : ByteArray, Hid (⟨(word ++ hxS x).toArray⟩ = Z) := ⟨_, hid rfl⟩
        rw [HZ.out]
        obtain ⟨v5, W5, hr5, hs5⟩ := S3.out.more HLT.out.1 ⟨HLT.out.2.1, HLT.out.2.2.1, HLT.out.2.2.2⟩ (by unfold idT; rw [List.length_map, List.length_take]; omega) (word ++ hxS x) Z HZ.out 63
        have hbs := run_txt Z w3
        obtain ⟨W4, HW4⟩ : ∃ W, Hid (w3.alloc (.cells #[.string Z] 9) = W) := ⟨_, rfl⟩
        rw [HW4.out] at hr5 hbs
        have S5 : Hid (Wl w0 W5 B0 B1 v5 (idT word (l.take (i + 1))) p g q r (i + 1) Wd (fun y => y ∈ l.take (i + 1))) := hid (by rw [HTK.out]; exact hs5)
        clear hg3 hs ho3 hs5
        go_wp2_with (first | (refine wpList_bSY rfl 63 1 _ rfl (.string Z) _ rfl hbs ?_) | (at_builtin; refine wpList_app rfl _ _ 63 63 rfl 63 rfl _ _ rfl rfl hr5 ?_) | fail)
        go_roundg (m - (i + 1))
        case measure => omega
        case rel => exact ⟨i + 1, by omega, rfl, by go_num, S5, HN3⟩
    · have hlti : ¬ (i : Int) < (m : Int) := by omega
      have HTA : Hid (l.take i = l) := hid (List.take_of_length_le (by rw [HM.out]; omega))
      have HF : Hid (Wl w0 wr B0 B1 u8 (idT word l) p g q r i Wd (fun y => y ∈ l)) := hid (by have := HS.out; rw [HTA.out] at this; exact this)
      have HNF : Hid (l.Nodup) := hid (by have := HND.out; rw [HTA.out] at this; exact this)
      clear HS HND HTA
      go_wp2
      refine bodyPost_ret (results_tmp2 Tryz.results72 _ _ _) rfl ?_
      exact ⟨HF.out.bl, Nat.le_trans HLT.out.1 HF.out.le, .inl ⟨HNF.out, _, rfl, base_mono HF.out.own HLT.out.1⟩⟩
end Go.Proofs.YtijeogdnjeamaaaGreatDoor
