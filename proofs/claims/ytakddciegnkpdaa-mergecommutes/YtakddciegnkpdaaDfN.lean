/- 'numbering.lines'. -/
import Derived.Test.YtakddciegnkpdaaDfM
import Derived.OwnWalk
namespace Go.Proofs.Ytakddciegnkpdaa
open Go.RowKit
set_option linter.unusedVariables false
set_option linter.unusedSimpArgs false
/-- Numbers that are given: each is below their number, no two texts have the same. -/
structure Nb (f : Str → Option Int) (s : Nat) : Prop where
  lt : ∀ x v, f x = some v → 0 ≤ v ∧ v < (s : Int)
  inj : ∀ x y v, f x = some v → f y = some v → x = y
def Ext (f f' : Str → Option Int) : Prop := ∀ x v, f x = some v → f' x = some v
theorem nb_none : Nb (fun _ => none) 0 := ⟨(fun x v h => by cases h), (fun x y v h => by cases h)⟩
theorem Ext.refl (f : Str → Option Int) : Ext f f := fun _ _ h => h
theorem Ext.trans {f g h : Str → Option Int} (a : Ext f g) (b : Ext g h) : Ext f h := fun x v e => b x v (a x v e)
theorem Nb.new {f : Str → Option Int} {s : Nat} (h : Nb f s) {x : Str} (hx : f x = none) : Nb (updF f x (s : Int)) (s + 1) ∧ Ext f (updF f x (s : Int)) := by
  refine ⟨⟨fun y v hv => ?_, fun y z v hy hz => ?_⟩, fun y v hv => ?_⟩
  · unfold updF at hv
    split at hv
    · cases hv; omega
    · have := h.lt y v hv; omega
  · unfold updF at hy hz
    split at hy
    · split at hz
      · simp_all
      · cases hy; have := h.lt z _ hz; omega
    · split at hz
      · cases hz; have := h.lt y _ hy; omega
      · exact h.inj y z v hy hz
  · unfold updF
    split
    · rename_i e; rw [e, hx] at hv; cases hv
    · exact hv
/-- Numbers in memory, while a map is changed. -/
structure Ik (G n g : Nat) (w wr : World) (ks : List Int) : Prop where
  grown : w.grownBy wr (some g)
  own : wr.ownsRow G 3 1 (.slice (some ⟨G, 0, none⟩) n n) n (row .i64 ks)
  len : ks.length = n
theorem Ik.cell {G n g : Nat} {w wr : World} {m : List Int} (h : Ik G n g w wr m) (j : Nat) (hj : j < n) : wr.cell? ⟨G, j, none⟩ = some (.int .i64 (m.getD j 0)) ∧ wr.frozen? ⟨G, j, none⟩ = false := by
  refine ⟨?_, h.own.frozenAt j⟩
  rw [h.own.cellAt j (by omega), row_at _ _ _ (by rw [h.len]; exact hj)]
theorem Ik.lt {G n g : Nat} {w wr : World} {m : List Int} (h : Ik G n g w wr m) : G < wr.heap.size := (own_lt h.own G rfl).2
theorem Ik.turn {G n g : Nat} {w wr w' : World} {m : List Int} (h : Ik G n g w wr m) (hg : wr.grownBy w' (some g)) (hne : g ≠ G) : Ik G n g w w' m :=
  ⟨h.grown.trans hg, h.own.kept hg (.inr (by simp [Value.ownBlock]; exact fun e => hne e.symm)), h.len⟩
theorem Ik.set {G n g : Nat} {w wr : World} {m : List Int} (h : Ik G n g w wr m) (hG : w.heap.size ≤ G) (t : Nat) (v : Int) : Ik G n g w (wr.setCell ⟨G, t, none⟩ (.int .i64 v)) (m.set t v) := by
  have h1 := h.own.stored t (.int .i64 v)
  have h2 := h.grown
  refine ⟨⟨h1.2.os.trans h2.os, h1.2.tape.trans h2.tape, h1.2.output.trans h2.output, Nat.le_trans h2.size h1.2.size, fun k hk hn => (h1.2.block k (Nat.lt_of_lt_of_le hk h2.size) (fun e => by simp [Value.ownBlock] at e; omega)).trans (h2.block k hk hn)⟩, ?_, by rw [List.length_set]; exact h.len⟩
  unfold row
  rw [List.map_set]
  exact h1.1
theorem Ik.setg {G n g : Nat} {w wr : World} {m : List Int} (h : Ik G n g w wr m) (t : Nat) (v : Int) : wr.grownBy (wr.setCell ⟨G, t, none⟩ (.int .i64 v)) (some G) := (h.own.stored t (.int .i64 v)).2
theorem Try.info3 : (Try.prog.info? 3).map (fun i => (i.zero, i.size, i.bytes)) = some (some (.int .i64 0), 1, 8) := by kernel_rfl
theorem und40 : Try.prog.underlying 43 = some (.slice 3) := by kernel_rfl
def PostN (l : List Str) (n G g nn : Nat) (f : Str → Option Int) (w : World) (e : Ending) (w' : World) : Prop :=
  ∃ f' s' nn' ks, e = .returned (.slice (some ⟨G, 0, none⟩) n n) ∧ Ik G n g w w' ks ∧ MS w' g nn' f' s' ∧ nn' ≤ nn + n ∧ Nb f' s' ∧ Ext f f' ∧ ∀ j, j < n → f' (l.getD j []) = some (ks.getD j 0)
theorem set_at {m : List Int} {i n : Nat} {v : Int} (hm : m.length = n) (hi : i < n) (j : Nat) : (m.set i v).getD j 0 = if j = i then v else m.getD j 0 := by
  rw [List.getD_eq_getElem?_getD, List.getD_eq_getElem?_getD, List.getElem?_set]
  by_cases e : i = j
  · subst e; simp [hm, hi]
  · rw [if_neg e, if_neg (Ne.symm e)]
set_option maxRecDepth 20000 in
set_option maxHeartbeats 2000000 in
theorem numLines_any {w : World} (g nn s : Nat) (f : Str → Option Int) (hM : MS w g nn f s) (hN : Nb f s) (hnn : nn ≤ 20000) (a : Option Addr) (cap : Nat) (l : List Str) (hP : PS w a cap l) (hg : ∀ p : Addr, a = some p → p.block ≠ g) (hn : l.length ≤ 4000) (hl : ∀ x ∈ l, x.length ≤ 4000) :
    Calls Try.prog 38 #[.map (some g), .slice a l.length cap] w (PostN l l.length w.heap.size g nn f w) := by
  obtain ⟨n, HN⟩ : ∃ n, Hid (l.length = n) := ⟨_, rfl⟩
  obtain ⟨G, HG⟩ : ∃ G, Hid (w.heap.size = G) := ⟨_, rfl⟩
  have hn4 : n ≤ 4000 := by rw [← HN.out]; exact hn
  have HPF : Hid (0 < n → ∃ b off, a = some ⟨b, off, none⟩) := fun h0 => by
    obtain ⟨b, off, e1, _⟩ := hP.at_ (by rw [HN.out]; exact h0)
    exact ⟨b, off, e1⟩
  have HPS : Hid (∀ W, w.grownBy W (some g) → PS W a cap l) := fun W hW => hP.grown (K := g) hg hW
  have hgG : g < G := by rw [← HG.out]; exact hM.lt
  have HMS : Hid (MS w g nn f s) := hM
  have HNB : Hid (Nb f s) := hN
  have HLL : Hid (∀ x ∈ l, x.length ≤ 4000) := hl
  obtain ⟨i3, hi3, hz0, hz1, hz2⟩ := info_parts Try.info3
  rw [HN.out, HG.out]
  clear hP hM hN hl hn hg
  go_enter Try.func38, Try.ntmps38
  go_wp2_with (first
    | (at_make; refine wpList_make_full _ rfl _ _ 43 rfl G 3 i3 (.int .i64 0) 1 und40 hi3 hz0 hz1 _ _ _ _ n rfl rfl ?c1 ?c2 ?c3 ?c4 ?c5 ?_)
    | fail)
  case c1 => rfl
  case c2 => rfl
  case c3 => rw [hz2]; omega
  case c4 => unfold maxLen; omega
  case c5 => rw [HG.out]; exact Nat.le_refl _
  intro w1 hown1 hgr1
  rw [HG.out] at hown1 ⊢
  have hgr2 : w.grownBy w1 (some g) := ⟨hgr1.os, hgr1.tape, hgr1.output, hgr1.size, fun k hk _ => hgr1.block k hk (by simp)⟩
  have HIK1 : Hid (Ik G n g w w1 (List.replicate n 0)) := hid ⟨hgr2, by
    rw [toList_madeCells_one] at hown1
    unfold row
    rw [List.map_replicate]
    exact hown1, by simp⟩
  have HMS1 : Hid (MS w1 g nn f s) := hid (HMS.out.kept hgr1 (by simp))
  clear hown1 hgr1 hgr2 HMS
  go_wp2_with fail
  go_loopg [15] n (fun gg iv wr => ∃ (i s' nn' : Nat) (f' : Str → Option Int) (ks : List Int), iv = .int .i64 i ∧ gg = n - i ∧ i ≤ n ∧ nn' ≤ nn + i ∧ Hid (Ik G n g w wr ks) ∧ Hid (MS wr g nn' f' s') ∧ Hid (Nb f' s') ∧ Hid (Ext f f') ∧ Hid (∀ j, j < i → f' (l.getD j []) = some (ks.getD j 0)))
  case atStart => exact ⟨0, s, nn, f, _, rfl, rfl, Nat.zero_le _, Nat.le_refl _, HIK1, HMS1, HNB, hid (Ext.refl f), hid (fun j hj => by omega)⟩
  case round =>
    obtain ⟨i, s', nn', f', ks, rfl, hk, hi, hnn', HIK, HM, HNb, HEx, HA⟩ := hrel
    by_cases hlt : i < n
    · have hlti : (i : Int) < (n : Int) := by omega
      obtain ⟨b, off, hae⟩ := HPF.out (by omega)
      subst hae
      obtain ⟨x, HX⟩ : ∃ x, Hid (l.getD i [] = x) := ⟨_, rfl⟩
      have hxm : x ∈ l := by rw [← HX.out]; exact getD_mem l i _ (by rw [HN.out]; exact hlt)
      have hxl : x.length ≤ 4000 := HLL.out x hxm
      obtain ⟨T, HT⟩ : ∃ T, Hid (sV x = T) := ⟨_, rfl⟩
      have hc0 : wr.cell? ⟨b, off + i, none⟩ = some T := by rw [← HT.out, ← HX.out]; exact PS.cell (HPS.out wr HIK.out.grown) i (by rw [HN.out]; exact hlt)
      have hc1 : wr.cell? ⟨b, off + i * 1, none⟩ = some T := by rw [Nat.mul_one]; exact hc0
      have HLK : Hid ((Instr.lookup 73 (.map (some g)) T true).run Try.prog wr = .ok (.tuple #[.int .i64 ((f' x).getD 0), .bool (f' x).isSome]) wr) := hid (by rw [← HT.out]; exact HM.out.look hxl)
      cases hfx : f' x with
      | some v =>
        rw [hfx] at HLK
        simp only [Option.getD_some, Option.isSome_some] at HLK
        obtain ⟨hc4, hf4⟩ := HIK.out.cell i hlt
        have HIK5 : Hid (Ik G n g w (wr.setCell ⟨G, i, none⟩ (.int .i64 v)) (ks.set i v)) := hid (HIK.out.set (by rw [HG.out]; exact Nat.le_refl _) i v)
        have HM5 : Hid (MS (wr.setCell ⟨G, i, none⟩ (.int .i64 v)) g nn' f' s') := hid (HM.out.kept (HIK.out.setg i v) (by simp; omega))
        have HA5 : Hid (∀ j, j < i + 1 → f' (l.getD j []) = some ((ks.set i v).getD j 0)) := hid (fun j hj => by
          rw [set_at HIK.out.len hlt]
          by_cases e : j = i
          · rw [if_pos e, e, HX.out, hfx]
          · rw [if_neg e]; exact HA.out j (by omega))
        clear hxm hfx
        go_wp2_with (first
          | refine wpList_run rfl _ (exec_lookup rfl rfl rfl HLK.out) ?_
          | fail)
        go_roundg (n - (i + 1))
        case measure => omega
        case rel => exact ⟨i + 1, s', nn', f', ks.set i v, by go_num, rfl, by omega, by omega, HIK5, HM5, HNb, HEx, HA5⟩
      | none =>
        rw [hfx] at HLK
        simp only [Option.getD_none, Option.isSome_none] at HLK
        have hlen : ∀ ty : TypeId, (Builtin.len_ #[73] ty #[.map (some g)]).run Try.prog wr = .ok (.int .i64 (s' : Int)) wr := fun ty => HM.out.len ty
        have hss := HM.out.size_le
        obtain ⟨w2, hput, hm2, hg2⟩ := HM.out.put (by omega) hxl (s' : Int) (WalkArith.wf_i64 (by omega))
        rw [HT.out] at hput
        rw [hfx] at hm2
        simp only [Option.isSome_none, if_false, Bool.false_eq_true] at hm2
        have HPUT : Hid ((Instr.mapUpdate 73 (.map (some g)) T (.int .i64 (s' : Int))).run Try.prog wr = .ok () w2) := hput
        have hIK2 : Ik G n g w w2 ks := HIK.out.turn hg2 (by omega)
        obtain ⟨hc4, hf4⟩ := hIK2.cell i hlt
        have HIK5 : Hid (Ik G n g w (w2.setCell ⟨G, i, none⟩ (.int .i64 (s' : Int))) (ks.set i (s' : Int))) := hid (hIK2.set (by rw [HG.out]; exact Nat.le_refl _) i _)
        have HM5 : Hid (MS (w2.setCell ⟨G, i, none⟩ (.int .i64 (s' : Int))) g (nn' + 1) (updF f' x (s' : Int)) (s' + 1)) := hid (hm2.kept (hIK2.setg i _) (by simp; omega))
        obtain ⟨hnb5, hex5⟩ := HNb.out.new hfx
        have HNb5 : Hid (Nb (updF f' x (s' : Int)) (s' + 1)) := hnb5
        have HEx5 : Hid (Ext f (updF f' x (s' : Int))) := hid (HEx.out.trans hex5)
        have HA5 : Hid (∀ j, j < i + 1 → updF f' x (s' : Int) (l.getD j []) = some ((ks.set i (s' : Int)).getD j 0)) := hid (fun j hj => by
          rw [set_at HIK.out.len hlt]
          by_cases e : j = i
          · rw [if_pos e, e, HX.out]; simp [updF]
          · rw [if_neg e]; exact hex5 _ _ (HA.out j (by omega)))
        clear hxm hfx hput hm2 hIK2 hnb5 hex5 hg2
        go_wp2_with (first
          | refine wpList_run rfl _ (exec_lookup rfl rfl rfl HLK.out) ?_
          | refine wpList_skip rfl (exec_update rfl rfl rfl rfl HPUT.out) ?_
          | fail)
        go_roundg (n - (i + 1))
        case measure => omega
        case rel => exact ⟨i + 1, s' + 1, nn' + 1, updF f' x (s' : Int), ks.set i (s' : Int), by go_num, rfl, by omega, by omega, HIK5, HM5, HNb5, HEx5, HA5⟩
    · have hlti : ¬ (i : Int) < (n : Int) := by omega
      have hin : i = n := by omega
      go_wp2
      go_ret
      exact ⟨f', s', nn', ks, rfl, HIK.out, HM.out, by omega, HNb.out, HEx.out, fun j hj => HA.out j (by omega)⟩
end Go.Proofs.Ytakddciegnkpdaa
