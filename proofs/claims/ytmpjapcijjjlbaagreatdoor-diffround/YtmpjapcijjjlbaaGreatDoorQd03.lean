import Derived.Test.YtmpjapcijjjlbaaGreatDoorQd02
import Derived.OwnWalk
import Derived.Test.YtmpjapcijjjlbaaGreatDoorQd01
namespace Go.Proofs.YtmpjapcijjjlbaaGreatDoor
open Go.RowKit
set_option linter.unusedVariables false
set_option linter.unusedSimpArgs false
theorem base_mono {w : World} {B B' : Nat} {e : TypeId} {s : Nat} {v : Value} {n : Nat} {xs : List Value} (h : w.ownsRow B' e s v n xs) (hB : B ≤ B') : w.ownsRow B e s v n xs := by
  obtain ⟨hl, h1 | ⟨g, c, cur, h1, h2, h3⟩⟩ := h
  · exact ⟨hl, .inl h1⟩
  · exact ⟨hl, .inr ⟨g, c, cur, h1, Nat.le_trans hB h2, h3⟩⟩
theorem collect_any (Bs : Nat) (s : Str) (hl : s.length ≤ 1000000) (w00 w : World) (hb0 : Below w00.heap.size w00 w) (hB0 : w00.heap.size ≤ Bs) (hbs : Boxed w Bs 9 (sV s)) :
    Calls Tryz.prog 28 #[.func (.func 52) #[] #[.pointer (some ⟨Bs, 0, none⟩)]] w (PostK (lns s) w00 w) := by
  have HC : Hid (Calls Tryz.prog 51 #[.slice none 0 0, .func (.func 52) #[] #[.pointer (some ⟨Bs, 0, none⟩)]] w (PostK (lns s) w00 w)) := appendSeq_any Bs s hl w00 w hb0 hB0 hbs
  clear hb0 hbs
  go_enter Tryz.func28, Tryz.ntmps28
  go_wp2_with fail
  refine HC.out.mono ?_
  rintro e w1 ⟨v, rfl, ho, hb⟩
  have HO : Hid (w1.ownsRow w.heap.size 9 1 v (lns s).length (fS (lns s))) := ho
  have HB : Hid (Below w00.heap.size w00 w1) := hb
  clear ho hb
  go_wp2
  go_ret
  exact ⟨v, rfl, HO.out, HB.out⟩
theorem seq_call (s : Str) (w : World) : Calls Tryz.prog 29 #[sV s] w fun e w' => e = .returned (.func (.func 52) #[] #[.pointer (some ⟨w.heap.size, 0, none⟩)]) ∧ w' = w.alloc (.cells #[sV s] 9) := by
  unfold sV
  go_enter Tryz.func29, Tryz.ntmps29
  go_wp2
  go_ret
  exact ⟨rfl, rfl⟩
theorem lines_any {w : World} (a : Option Addr) (cap : Nat) (s : Str) (hP : PB w a cap s) (hn : s.length ≤ 1000000) :
    Calls Tryz.prog 15 #[.slice a s.length cap] w (PostS (lns s) w) := by
  obtain ⟨n, HN⟩ : ∃ n, Hid (s.length = n) := ⟨_, rfl⟩
  obtain ⟨T, HT⟩ : ∃ T, Hid (sV s = T) := ⟨_, rfl⟩
  have hcv : (convert 22 9 (.slice a n cap)).run Tryz.prog w = .ok T w := by rw [← HN.out, ← HT.out]; exact conv_str hP
  obtain ⟨w1, HW1⟩ : ∃ u, Hid (w.alloc (.cells #[T] 9) = u) := ⟨_, rfl⟩
  have C15 : Hid (Calls Tryz.prog 29 #[T] w fun e w' => e = .returned (.func (.func 52) #[] #[.pointer (some ⟨w.heap.size, 0, none⟩)]) ∧ w' = w1) := hid (by rw [← HW1.out, ← HT.out]; exact seq_call s w)
  have hb1 : Below w.heap.size w w1 := by rw [← HW1.out]; exact (Below.refl _ w).alloc (Nat.le_refl _) _
  have C14 : Hid (Calls Tryz.prog 28 #[.func (.func 52) #[] #[.pointer (some ⟨w.heap.size, 0, none⟩)]] w1 (PostK (lns s) w w1)) := hid (collect_any w.heap.size s hn w w1 hb1 (Nat.le_refl _) (by rw [← HW1.out, HT.out]; exact Boxed.new w 9 T))
  have HS1 : Hid (w.heap.size ≤ w1.heap.size) := hb1.size
  rw [HN.out]
  clear hP hn hb1
  go_enter Tryz.func15, Tryz.ntmps15
  go_wp2_with fail
  refine C15.out.mono ?_
  rintro e w2 ⟨rfl, rfl⟩
  go_wp2_with fail
  refine C14.out.mono ?_
  rintro e w3 ⟨v, rfl, ho, hb⟩
  have HO : Hid (w3.ownsRow w2.heap.size 9 1 v (lns s).length (fS (lns s))) := ho
  have HB : Hid (Below w.heap.size w w3) := hb
  clear ho hb
  go_wp2
  go_ret
  exact ⟨v, rfl, HB.out, base_mono HO.out HS1.out, HB.out.size⟩
end Go.Proofs.YtmpjapcijjjlbaaGreatDoor
namespace Go.Proofs.YtmpjapcijjjlbaaGreatDoor
open Go.RowKit
set_option linter.unusedVariables false
set_option linter.unusedSimpArgs false
theorem keyed9 : Maps.Keyed Tryz.prog 9 := Maps.string_keyed Tryz.underlying9
theorem key_str (x : Str) (h : x.length ≤ 4000) : keyOf Tryz.prog 9 (sV x) = some (.string x) := by
  have h2 : (⟨x.toArray⟩ : ByteArray).size ≤ maxLen := by simp [ByteArray.size, maxLen]; omega
  unfold keyOf sV
  rw [Tryz.underlying9]
  simp [mapKey, Tryz.underlying9, h2]
theorem und45 : Tryz.prog.underlying 107 = some (.map 9 3) := by kernel_rfl
theorem zero3 (w : World) : (zeroValue 3).run Tryz.prog w = .ok (.int .i64 0) w := by kernel_rfl
theorem und3 : Tryz.prog.underlying 3 = some (.int .i64) := by kernel_rfl
theorem key_eq {x y : Str} {kl : Lit} (h1 : keyOf Tryz.prog 9 (sV x) = some kl) (h2 : keyOf Tryz.prog 9 (sV y) = some kl) : x = y := str_inj (keyed9.inj h1 h2)
def MS (w : World) (g n : Nat) (f : Str → Option Int) (s : Nat) : Prop := ∃ D, w.ownsMap (H := Unit) Tryz.prog 9 (plainElem Tryz.prog 3) g n D ∧ Maps.size D = s ∧ ∀ x kl, keyOf Tryz.prog 9 (sV x) = some kl → (Maps.has D kl = (f x).isSome) ∧ D.atKey kl (.lit (.int .i64 0)) = .lit (.int .i64 ((f x).getD 0))
theorem MS.kept {w w' : World} {g n s : Nat} {f : Str → Option Int} {row : Option Nat} (h : MS w g n f s) (hg : w.grownBy w' row) (hne : some g ≠ row) : MS w' g n f s := by
  obtain ⟨D, h1, h2, h3⟩ := h
  exact ⟨D, h1.kept hg hne, h2, h3⟩
theorem MS.below {w w' : World} {g n s : Nat} {f : Str → Option Int} (h : MS w g n f s) (hb : Below w.heap.size w w') : MS w' g n f s := h.kept (row := none) (grown_of_below hb _) (by simp)
theorem MS.lt {w : World} {g n s : Nat} {f : Str → Option Int} (h : MS w g n f s) : g < w.heap.size := by obtain ⟨D, h1, _⟩ := h; exact h1.lt
theorem ms_made (w : World) : MS (w.alloc (.map #[] 0)) w.heap.size 0 (fun _ => none) 0 := ⟨_, World.ownsMap_made _ _ _ _, rfl, fun x kl _ => by simp [Maps.has, DataW.atKey]⟩
def updF (f : Str → Option Int) (x : Str) (v : Int) : Str → Option Int := fun y => if y = x then some v else f y
theorem MS.size_le {w : World} {g n s : Nat} {f : Str → Option Int} (h : MS w g n f s) : s ≤ n := by
  obtain ⟨D, h1, h2, h3⟩ := h
  rw [← h2]
  exact h1.size_le
set_option maxRecDepth 20000 in
theorem MS.look {w : World} {g n s : Nat} {f : Str → Option Int} (h : MS w g n f s) {x : Str} (hx : x.length ≤ 4000) : (Instr.lookup 107 (.map (some g)) (sV x) true).run Tryz.prog w = .ok (.tuple #[.int .i64 ((f x).getD 0), .bool (f x).isSome]) w := by
  obtain ⟨D, h1, h2, h3⟩ := h
  have hkl := key_str x hx
  obtain ⟨v, ps, hrun, hv⟩ := h1.look_ok keyed9 und45 (zero3 w) (plainElem_int (H := Unit) und3 (by decide)) hkl
  obtain ⟨c, rfl, hc, _⟩ := plainElem_int_inv und3 hv
  have h4 := (h3 x _ hkl).2
  have h5 := congrArg Prod.fst hc
  simp only at h5
  rw [h5] at h4
  have h6 := (Lit.int.inj (DataW.lit.inj h4)).2
  rw [hrun, (h3 x _ hkl).1, h6]
theorem MS.len {w : World} {g n s : Nat} {f : Str → Option Int} (h : MS w g n f s) (ty : TypeId) : (Builtin.len_ #[107] ty #[.map (some g)]).run Tryz.prog w = .ok (.int .i64 s) w := by
  obtain ⟨D, h1, h2, h3⟩ := h
  rw [h1.len und45 ty, h2]
theorem MS.put {w : World} {g n s : Nat} {f : Str → Option Int} (h : MS w g n f s) (hn : n ≤ 100000) {x : Str} (hx : x.length ≤ 4000) (v : Int) (hv : (Lit.int .i64 v).wf = true) : ∃ w', (Instr.mapUpdate 107 (.map (some g)) (sV x) (.int .i64 v)).run Tryz.prog w = .ok () w' ∧ MS w' g (n + 1) (updF f x v) (if (f x).isSome then s else s + 1) ∧ w.grownBy w' (some g) := by
  obtain ⟨D, h1, h2, h3⟩ := h
  have hkl := key_str x hx
  obtain ⟨w', hrun, h4, h5⟩ := h1.update keyed9 und45 (by unfold maxLen; omega) hkl (plainElem_int (H := Unit) und3 hv)
  refine ⟨w', hrun, ⟨_, h4, ?_, fun y ky hky => ?_⟩, h5⟩
  · rw [Maps.size_put (h1.tidy keyed9), (h3 x _ hkl).1, h2]
  · unfold updF
    by_cases e : ky = .string x
    · subst e
      rw [Maps.has_put_same h1.isMap (keyed9.key hkl), Maps.atKey_put_same h1.isMap (keyed9.key hkl), if_pos (key_eq hky hkl)]
      exact ⟨rfl, rfl⟩
    · rw [Maps.has_put_other e, Maps.atKey_put_other e, if_neg (fun h => by subst h; rw [hkl] at hky; exact e (Option.some.inj hky).symm)]
      exact h3 y ky hky
end Go.Proofs.YtmpjapcijjjlbaaGreatDoor
namespace Go.Proofs.YtmpjapcijjjlbaaGreatDoor
open Go.RowKit
set_option linter.unusedVariables false
set_option linter.unusedSimpArgs false
structure Nb (f : Str → Option Int) (s : Nat) : Prop where
  lt : ∀ x v, f x = some v → 0 ≤ v ∧ v < (s : Int)
  inj : ∀ x y v, f x = some v → f y = some v → x = y
def Ext (f f' : Str → Option Int) : Prop := ∀ x v, f x = some v → f' x = some v
theorem nb_none : Nb (fun _ => none) 0 := ⟨(fun x v h => by cases h), (fun x y v h => by cases h)⟩
theorem Ext.refl (f : Str → Option Int) : Ext f f := fun _ _ h => h
theorem Ext.trans {f g h : Str → Option Int} (a : Ext f g) (b : Ext g h) : Ext f h := fun x v e => b x v (a x v e)
theorem Nb.new {f : Str → Option Int} {s : Nat} (h : Nb f s) {x : Str} (hx : f x = none) : Nb (updF f x (s : Int)) (s + 1) ∧ Ext f (updF f x (s : Int)) := by
  refine ⟨⟨fun y v hv => ?_, fun y z v hy hz => ?_⟩, fun y v hv => ?_⟩
  · unfold updF at hv
    split at hv
    · cases hv; omega
    · have := h.lt y v hv; omega
  · unfold updF at hy hz
    split at hy
    · split at hz
      · simp_all
      · cases hy; have := h.lt z _ hz; omega
    · split at hz
      · cases hz; have := h.lt y _ hy; omega
      · exact h.inj y z v hy hz
  · unfold updF
    split
    · rename_i e; rw [e, hx] at hv; cases hv
    · exact hv
structure Ik (G n g : Nat) (w wr : World) (ks : List Int) : Prop where
  grown : w.grownBy wr (some g)
  own : wr.ownsRow G 3 1 (.slice (some ⟨G, 0, none⟩) n n) n (row .i64 ks)
  len : ks.length = n
theorem Ik.cell {G n g : Nat} {w wr : World} {m : List Int} (h : Ik G n g w wr m) (j : Nat) (hj : j < n) : wr.cell? ⟨G, j, none⟩ = some (.int .i64 (m.getD j 0)) ∧ wr.frozen? ⟨G, j, none⟩ = false := by
  refine ⟨?_, h.own.frozenAt j⟩
  rw [h.own.cellAt j (by omega), row_at _ _ _ (by rw [h.len]; exact hj)]
theorem Ik.lt {G n g : Nat} {w wr : World} {m : List Int} (h : Ik G n g w wr m) : G < wr.heap.size := (own_lt h.own G rfl).2
theorem Ik.turn {G n g : Nat} {w wr w' : World} {m : List Int} (h : Ik G n g w wr m) (hg : wr.grownBy w' (some g)) (hne : g ≠ G) : Ik G n g w w' m :=
  ⟨h.grown.trans hg, h.own.kept hg (.inr (by simp [Value.ownBlock]; exact fun e => hne e.symm)), h.len⟩
theorem Ik.set {G n g : Nat} {w wr : World} {m : List Int} (h : Ik G n g w wr m) (hG : w.heap.size ≤ G) (t : Nat) (v : Int) : Ik G n g w (wr.setCell ⟨G, t, none⟩ (.int .i64 v)) (m.set t v) := by
  have h1 := h.own.stored t (.int .i64 v)
  have h2 := h.grown
  refine ⟨⟨h1.2.os.trans h2.os, h1.2.tape.trans h2.tape, h1.2.output.trans h2.output, Nat.le_trans h2.size h1.2.size, fun k hk hn => (h1.2.block k (Nat.lt_of_lt_of_le hk h2.size) (fun e => by simp [Value.ownBlock] at e; omega)).trans (h2.block k hk hn)⟩, ?_, by rw [List.length_set]; exact h.len⟩
  unfold row
  rw [List.map_set]
  exact h1.1
theorem Ik.setg {G n g : Nat} {w wr : World} {m : List Int} (h : Ik G n g w wr m) (t : Nat) (v : Int) : wr.grownBy (wr.setCell ⟨G, t, none⟩ (.int .i64 v)) (some G) := (h.own.stored t (.int .i64 v)).2
theorem Tryz.info3 : (Tryz.prog.info? 3).map (fun i => (i.zero, i.size, i.bytes)) = some (some (.int .i64 0), 1, 8) := by kernel_rfl
theorem und40 : Tryz.prog.underlying 108 = some (.slice 3) := by kernel_rfl
def PostN (l : List Str) (n G g nn : Nat) (f : Str → Option Int) (w : World) (e : Ending) (w' : World) : Prop :=
  ∃ f' s' nn' ks, e = .returned (.slice (some ⟨G, 0, none⟩) n n) ∧ Ik G n g w w' ks ∧ MS w' g nn' f' s' ∧ nn' ≤ nn + n ∧ Nb f' s' ∧ Ext f f' ∧ ∀ j, j < n → f' (l.getD j []) = some (ks.getD j 0)
theorem set_at {m : List Int} {i n : Nat} {v : Int} (hm : m.length = n) (hi : i < n) (j : Nat) : (m.set i v).getD j 0 = if j = i then v else m.getD j 0 := by
  rw [List.getD_eq_getElem?_getD, List.getD_eq_getElem?_getD, List.getElem?_set]
  by_cases e : i = j
  · subst e; simp [hm, hi]
  · rw [if_neg e, if_neg (Ne.symm e)]
set_option maxRecDepth 20000 in
set_option maxHeartbeats 2000000 in
theorem numLines_any {w : World} (g nn s : Nat) (f : Str → Option Int) (hM : MS w g nn f s) (hN : Nb f s) (hnn : nn ≤ 20000) (a : Option Addr) (cap : Nat) (l : List Str) (hP : PS w a cap l) (hg : ∀ p : Addr, a = some p → p.block ≠ g) (hn : l.length ≤ 4000) (hl : ∀ x ∈ l, x.length ≤ 4000) :
    Calls Tryz.prog 49 #[.map (some g), .slice a l.length cap] w (PostN l l.length w.heap.size g nn f w) := by
  obtain ⟨n, HN⟩ : ∃ n, Hid (l.length = n) := ⟨_, rfl⟩
  obtain ⟨G, HG⟩ : ∃ G, Hid (w.heap.size = G) := ⟨_, rfl⟩
  have hn4 : n ≤ 4000 := by rw [← HN.out]; exact hn
  have HPF : Hid (0 < n → ∃ b off, a = some ⟨b, off, none⟩) := fun h0 => by
    obtain ⟨b, off, e1, _⟩ := hP.at_ (by rw [HN.out]; exact h0)
    exact ⟨b, off, e1⟩
  have HPS : Hid (∀ W, w.grownBy W (some g) → PS W a cap l) := fun W hW => hP.grown (K := g) hg hW
  have hgG : g < G := by rw [← HG.out]; exact hM.lt
  have HMS : Hid (MS w g nn f s) := hM
  have HNB : Hid (Nb f s) := hN
  have HLL : Hid (∀ x ∈ l, x.length ≤ 4000) := hl
  obtain ⟨i3, hi3, hz0, hz1, hz2⟩ := info_parts Tryz.info3
  rw [HN.out, HG.out]
  clear hP hM hN hl hn hg
  go_enter Tryz.func49, Tryz.ntmps49
  go_wp2_with (first
    | (at_make; refine wpList_make_full _ rfl _ _ 108 rfl G 3 i3 (.int .i64 0) 1 und40 hi3 hz0 hz1 _ _ _ _ n rfl rfl ?c1 ?c2 ?c3 ?c4 ?c5 ?_)
    | fail)
  case c1 => rfl
  case c2 => rfl
  case c3 => rw [hz2]; omega
  case c4 => unfold maxLen; omega
  case c5 => rw [HG.out]; exact Nat.le_refl _
  intro w1 hown1 hgr1
  rw [HG.out] at hown1 ⊢
  have hgr2 : w.grownBy w1 (some g) := ⟨hgr1.os, hgr1.tape, hgr1.output, hgr1.size, fun k hk _ => hgr1.block k hk (by simp)⟩
  have HIK1 : Hid (Ik G n g w w1 (List.replicate n 0)) := hid ⟨hgr2, by
    rw [toList_madeCells_one] at hown1
    unfold row
    rw [List.map_replicate]
    exact hown1, by simp⟩
  have HMS1 : Hid (MS w1 g nn f s) := hid (HMS.out.kept hgr1 (by simp))
  clear hown1 hgr1 hgr2 HMS
  go_wp2_with fail
  go_loopg [15] n (fun gg iv wr => ∃ (i s' nn' : Nat) (f' : Str → Option Int) (ks : List Int), iv = .int .i64 i ∧ gg = n - i ∧ i ≤ n ∧ nn' ≤ nn + i ∧ Hid (Ik G n g w wr ks) ∧ Hid (MS wr g nn' f' s') ∧ Hid (Nb f' s') ∧ Hid (Ext f f') ∧ Hid (∀ j, j < i → f' (l.getD j []) = some (ks.getD j 0)))
  case atStart => exact ⟨0, s, nn, f, _, rfl, rfl, Nat.zero_le _, Nat.le_refl _, HIK1, HMS1, HNB, hid (Ext.refl f), hid (fun j hj => by omega)⟩
  case round =>
    obtain ⟨i, s', nn', f', ks, rfl, hk, hi, hnn', HIK, HM, HNb, HEx, HA⟩ := hrel
    by_cases hlt : i < n
    · have hlti : (i : Int) < (n : Int) := by omega
      obtain ⟨b, off, hae⟩ := HPF.out (by omega)
      subst hae
      obtain ⟨x, HX⟩ : ∃ x, Hid (l.getD i [] = x) := ⟨_, rfl⟩
      have hxm : x ∈ l := by rw [← HX.out]; exact getD_mem l i _ (by rw [HN.out]; exact hlt)
      have hxl : x.length ≤ 4000 := HLL.out x hxm
      obtain ⟨T, HT⟩ : ∃ T, Hid (sV x = T) := ⟨_, rfl⟩
      have hc0 : wr.cell? ⟨b, off + i, none⟩ = some T := by rw [← HT.out, ← HX.out]; exact PS.cell (HPS.out wr HIK.out.grown) i (by rw [HN.out]; exact hlt)
      have hc1 : wr.cell? ⟨b, off + i * 1, none⟩ = some T := by rw [Nat.mul_one]; exact hc0
      have HLK : Hid ((Instr.lookup 107 (.map (some g)) T true).run Tryz.prog wr = .ok (.tuple #[.int .i64 ((f' x).getD 0), .bool (f' x).isSome]) wr) := hid (by rw [← HT.out]; exact HM.out.look hxl)
      cases hfx : f' x with
      | some v =>
        rw [hfx] at HLK
        simp only [Option.getD_some, Option.isSome_some] at HLK
        obtain ⟨hc4, hf4⟩ := HIK.out.cell i hlt
        have HIK5 : Hid (Ik G n g w (wr.setCell ⟨G, i, none⟩ (.int .i64 v)) (ks.set i v)) := hid (HIK.out.set (by rw [HG.out]; exact Nat.le_refl _) i v)
        have HM5 : Hid (MS (wr.setCell ⟨G, i, none⟩ (.int .i64 v)) g nn' f' s') := hid (HM.out.kept (HIK.out.setg i v) (by simp; omega))
        have HA5 : Hid (∀ j, j < i + 1 → f' (l.getD j []) = some ((ks.set i v).getD j 0)) := hid (fun j hj => by
          rw [set_at HIK.out.len hlt]
          by_cases e : j = i
          · rw [if_pos e, e, HX.out, hfx]
          · rw [if_neg e]; exact HA.out j (by omega))
        clear hxm hfx
        go_wp2_with (first
          | refine wpList_run rfl _ (exec_lookup rfl rfl rfl HLK.out) ?_
          | fail)
        go_roundg (n - (i + 1))
        case measure => omega
        case rel => exact ⟨i + 1, s', nn', f', ks.set i v, by go_num, rfl, by omega, by omega, HIK5, HM5, HNb, HEx, HA5⟩
      | none =>
        rw [hfx] at HLK
        simp only [Option.getD_none, Option.isSome_none] at HLK
        have hlen : ∀ ty : TypeId, (Builtin.len_ #[107] ty #[.map (some g)]).run Tryz.prog wr = .ok (.int .i64 (s' : Int)) wr := fun ty => HM.out.len ty
        have hss := HM.out.size_le
        obtain ⟨w2, hput, hm2, hg2⟩ := HM.out.put (by omega) hxl (s' : Int) (WalkArith.wf_i64 (by omega))
        rw [HT.out] at hput
        rw [hfx] at hm2
        simp only [Option.isSome_none, if_false, Bool.false_eq_true] at hm2
        have HPUT : Hid ((Instr.mapUpdate 107 (.map (some g)) T (.int .i64 (s' : Int))).run Tryz.prog wr = .ok () w2) := hput
        have hIK2 : Ik G n g w w2 ks := HIK.out.turn hg2 (by omega)
        obtain ⟨hc4, hf4⟩ := hIK2.cell i hlt
        have HIK5 : Hid (Ik G n g w (w2.setCell ⟨G, i, none⟩ (.int .i64 (s' : Int))) (ks.set i (s' : Int))) := hid (hIK2.set (by rw [HG.out]; exact Nat.le_refl _) i _)
        have HM5 : Hid (MS (w2.setCell ⟨G, i, none⟩ (.int .i64 (s' : Int))) g (nn' + 1) (updF f' x (s' : Int)) (s' + 1)) := hid (hm2.kept (hIK2.setg i _) (by simp; omega))
        obtain ⟨hnb5, hex5⟩ := HNb.out.new hfx
        have HNb5 : Hid (Nb (updF f' x (s' : Int)) (s' + 1)) := hnb5
        have HEx5 : Hid (Ext f (updF f' x (s' : Int))) := hid (HEx.out.trans hex5)
        have HA5 : Hid (∀ j, j < i + 1 → updF f' x (s' : Int) (l.getD j []) = some ((ks.set i (s' : Int)).getD j 0)) := hid (fun j hj => by
          rw [set_at HIK.out.len hlt]
          by_cases e : j = i
          · rw [if_pos e, e, HX.out]; simp [updF]
          · rw [if_neg e]; exact hex5 _ _ (HA.out j (by omega)))
        clear hxm hfx hput hm2 hIK2 hnb5 hex5 hg2
        go_wp2_with (first
          | refine wpList_run rfl _ (exec_lookup rfl rfl rfl HLK.out) ?_
          | refine wpList_skip rfl (exec_update rfl rfl rfl rfl HPUT.out) ?_
          | fail)
        go_roundg (n - (i + 1))
        case measure => omega
        case rel => exact ⟨i + 1, s' + 1, nn' + 1, updF f' x (s' : Int), ks.set i (s' : Int), by go_num, rfl, by omega, by omega, HIK5, HM5, HNb5, HEx5, HA5⟩
    · have hlti : ¬ (i : Int) < (n : Int) := by omega
      have hin : i = n := by omega
      go_wp2
      go_ret
      exact ⟨f', s', nn', ks, rfl, HIK.out, HM.out, by omega, HNb.out, HEx.out, fun j hj => HA.out j (by omega)⟩
end Go.Proofs.YtmpjapcijjjlbaaGreatDoor
namespace Go.Proofs.YtmpjapcijjjlbaaGreatDoor
open Go.RowKit
set_option linter.unusedVariables false
set_option linter.unusedSimpArgs false
def setAt : List Value → Nat → List Value → List Value
  | l, _, [] => l
  | l, o, v :: vs => setAt (l.set o v) (o + 1) vs
theorem setAt_mid : ∀ (new old pre rest : List Value), new.length = old.length → setAt (pre ++ (old ++ rest)) pre.length new = pre ++ (new ++ rest)
  | [], [], pre, rest, _ => rfl
  | v :: new, x :: old, pre, rest, h => by
    show setAt ((pre ++ (x :: (old ++ rest))).set pre.length v) (pre.length + 1) new = _
    rw [List.set_append_right _ _ (Nat.le_refl _), Nat.sub_self, List.set_cons_zero]
    have := setAt_mid new old (pre ++ [v]) rest (by simpa using h)
    simpa using this
theorem owns_set {base : Nat} {e : TypeId} {size g n cap : Nat} : ∀ (vs : List Value) (o : Nat) (w : World) (xs : List Value), w.ownsRow base e size (.slice (some ⟨g, 0, none⟩) n cap) n xs → (w.setCells g o vs).ownsRow base e size (.slice (some ⟨g, 0, none⟩) n cap) n (setAt xs o vs) ∧ w.grownBy (w.setCells g o vs) (some g)
  | [], o, w, xs, h => ⟨h, rfl, rfl, rfl, Nat.le_refl _, fun _ _ _ => rfl⟩
  | v :: vs, o, w, xs, h => by
    have h1 := h.stored o v
    have h2 := owns_set vs (o + 1) (w.setCell ⟨g, o, none⟩ v) _ h1.1
    exact ⟨h2.1, h1.2.trans h2.2⟩
section
variable {α : Type} {enc : α → List Value} {k : Nat}
theorem set_flat (l : List α) (i : Nat) (x : α) (hi : i < l.length) (hw : ∀ y ∈ l, (enc y).length = k) (hx : (enc x).length = k) : setAt (l.flatMap enc) (i * k) (enc x) = (l.set i x).flatMap enc := by
  have e1 : l = l.take i ++ l[i] :: l.drop (i + 1) := by rw [← List.drop_eq_getElem_cons hi, List.take_append_drop]
  have e2 : l.set i x = l.take i ++ x :: l.drop (i + 1) := List.set_eq_take_append_cons_drop.trans (by rw [if_pos hi])
  have hl : ((l.take i).flatMap enc).length = i * k := by
    rw [fX_len (k := k) _ (fun y hy => hw y (List.mem_of_mem_take hy)), List.length_take, Nat.min_eq_left (Nat.le_of_lt hi)]
  rw [e2]
  conv => lhs; rw [e1]
  rw [List.flatMap_append, List.flatMap_append, List.flatMap_cons, List.flatMap_cons, ← hl, setAt_mid _ _ _ _ (by rw [hx, hw _ (List.getElem_mem hi)])]
theorem Bx.set {e : TypeId} {w0 w : World} {B g n cap : Nat} {l : List α} (h : Bx enc k e w0 w B (.slice (some ⟨g, 0, none⟩) n cap) l) (hn : l.length = n) (hB : B ≤ g) (i : Nat) (x : α) (hi : i < l.length) (hw : ∀ y ∈ l, (enc y).length = k) (hx : (enc x).length = k) :
    Bx enc k e w0 (w.setCells g (i * k) (enc x)) B (.slice (some ⟨g, 0, none⟩) n cap) (l.set i x) ∧ w.grownBy (w.setCells g (i * k) (enc x)) (some g) := by
  subst hn
  have h1 := owns_set (enc x) (i * k) w _ h.own
  rw [set_flat l i x hi hw hx] at h1
  exact ⟨⟨h.below.grown h1.2 h.le (fun k hk => by cases hk; exact hB), by rw [List.length_set]; exact h1.1, Nat.le_trans h.le h1.2.size⟩, h1.2⟩
theorem Bx.there {e : TypeId} {w0 w : World} {B g n cap : Nat} {l : List α} (h : Bx enc k e w0 w B (.slice (some ⟨g, 0, none⟩) n cap) l) (hn : l.length = n) (i : Nat) (hi : i < l.length) : w.there g (i * k) k := by
  subst hn
  intro j hj
  have hlt : i * k + j < l.length * k := by
    have : (i + 1) * k ≤ l.length * k := Nat.mul_le_mul_right k hi
    rw [Nat.add_mul] at this
    omega
  refine ⟨?_, h.own.frozenAt _⟩
  rw [h.own.cellAt _ hlt, List.getElem?_eq_getElem (by rw [h.own.1]; exact hlt)]
  rfl
end
end Go.Proofs.YtmpjapcijjjlbaaGreatDoor
namespace Go.Proofs.YtmpjapcijjjlbaaGreatDoor
set_option linter.unusedVariables false
set_option linter.unusedSimpArgs false
section
variable {α : Type} [DecidableEq α]
def lcsRow (x : α) (f : List α → Nat) : List α → Nat
  | [] => 0
  | y :: ys => if x = y then f ys + 1 else max (f (y :: ys)) (lcsRow x f ys)
def lcs : List α → List α → Nat
  | [] => fun _ => 0
  | x :: xs => lcsRow x (lcs xs)
theorem lcs_nil (ys : List α) : lcs [] ys = 0 := rfl
theorem lcs_nil' (xs : List α) : lcs xs [] = 0 := by cases xs <;> rfl
theorem lcs_cons (x : α) (xs : List α) (y : α) (ys : List α) : lcs (x :: xs) (y :: ys) = if x = y then lcs xs ys + 1 else max (lcs xs (y :: ys)) (lcs (x :: xs) ys) := rfl
theorem lcs_le : ∀ (xs ys : List α), lcs xs ys ≤ xs.length
  | [], ys => Nat.le_refl _
  | x :: xs, [] => by rw [lcs_nil']; exact Nat.zero_le _
  | x :: xs, y :: ys => by
    have h1 := lcs_le xs ys
    have h2 := lcs_le xs (y :: ys)
    have h3 := lcs_le (x :: xs) ys
    rw [lcs_cons]
    simp only [List.length_cons] at *
    split <;> omega
end
theorem lcs_map {α β : Type} [DecidableEq α] [DecidableEq β] (f : α → β) : ∀ (xs ys : List α), (∀ x ∈ xs, ∀ y ∈ ys, f x = f y → x = y) → lcs (xs.map f) (ys.map f) = lcs xs ys
  | [], ys, _ => rfl
  | x :: xs, [], _ => by rw [List.map_nil, lcs_nil', lcs_nil']
  | x :: xs, y :: ys, h => by
    have h1 := lcs_map f xs ys (fun a ha b hb => h a (List.mem_cons_of_mem _ ha) b (List.mem_cons_of_mem _ hb))
    have h2 := lcs_map f xs (y :: ys) (fun a ha b hb => h a (List.mem_cons_of_mem _ ha) b hb)
    have h3 := lcs_map f (x :: xs) ys (fun a ha b hb => h a ha b (List.mem_cons_of_mem _ hb))
    rw [List.map_cons] at h2 h3
    rw [List.map_cons, List.map_cons, lcs_cons, lcs_cons, h1, h2, h3]
    by_cases e : x = y
    · rw [if_pos e, if_pos (by rw [e])]
    · rw [if_neg e, if_neg (fun e2 => e (h x (by simp) y (by simp) e2))]
abbrev Ed := Nat × Str
def edF : Nat → List Str → List Str → List Ed
  | 0, _, _ => []
  | _ + 1, [], [] => []
  | k + 1, x :: xs, [] => (1, x) :: edF k xs []
  | k + 1, [], y :: ys => (2, y) :: edF k [] ys
  | k + 1, x :: xs, y :: ys => if x = y then (0, x) :: edF k xs ys else if lcs (x :: xs) ys ≤ lcs xs (y :: ys) then (1, x) :: edF k xs (y :: ys) else (2, y) :: edF k (x :: xs) ys
theorem edF_ge : ∀ (k k' : Nat) (xs ys : List Str), xs.length + ys.length ≤ k → xs.length + ys.length ≤ k' → edF k xs ys = edF k' xs ys
  | 0, 0, _, _, _, _ => rfl
  | 0, k' + 1, [], [], _, _ => rfl
  | 0, k' + 1, x :: xs, ys, h, _ => by simp at h
  | 0, k' + 1, [], y :: ys, h, _ => by simp at h
  | k + 1, 0, [], [], _, _ => rfl
  | k + 1, 0, x :: xs, ys, _, h => by simp at h
  | k + 1, 0, [], y :: ys, _, h => by simp at h
  | k + 1, k' + 1, [], [], _, _ => rfl
  | k + 1, k' + 1, x :: xs, [], h1, h2 => by
    simp only [List.length_cons, List.length_nil] at h1 h2
    rw [edF, edF, edF_ge k k' xs [] (by simp; omega) (by simp; omega)]
  | k + 1, k' + 1, [], y :: ys, h1, h2 => by
    simp only [List.length_cons, List.length_nil] at h1 h2
    rw [edF, edF, edF_ge k k' [] ys (by simp; omega) (by simp; omega)]
  | k + 1, k' + 1, x :: xs, y :: ys, h1, h2 => by
    simp only [List.length_cons] at h1 h2
    rw [edF, edF, edF_ge k k' xs ys (by omega) (by omega), edF_ge k k' xs (y :: ys) (by simp; omega) (by simp; omega), edF_ge k k' (x :: xs) ys (by simp; omega) (by simp; omega)]
def ed (xs ys : List Str) : List Ed := edF (xs.length + ys.length) xs ys
theorem ed_nil : ed [] [] = [] := rfl
theorem ed_end (x : Str) (xs : List Str) : ed (x :: xs) [] = (1, x) :: ed xs [] := rfl
theorem ed_start (y : Str) (ys : List Str) : ed [] (y :: ys) = (2, y) :: ed [] ys := by
  unfold ed
  simp only [List.length_nil, List.length_cons, Nat.zero_add]
  rfl
theorem ed_cons (x : Str) (xs : List Str) (y : Str) (ys : List Str) : ed (x :: xs) (y :: ys) = if x = y then (0, x) :: ed xs ys else if lcs (x :: xs) ys ≤ lcs xs (y :: ys) then (1, x) :: ed xs (y :: ys) else (2, y) :: ed (x :: xs) ys := by
  have h : (x :: xs).length + (y :: ys).length = (xs.length + ys.length + 1) + 1 := by simp; omega
  unfold ed
  rw [h, edF, edF_ge (xs.length + ys.length + 1) (xs.length + ys.length) xs ys (by omega) (by omega), edF_ge (xs.length + ys.length + 1) (xs.length + (y :: ys).length) xs (y :: ys) (by simp; omega) (by simp), edF_ge (xs.length + ys.length + 1) ((x :: xs).length + ys.length) (x :: xs) ys (by simp; omega) (by simp)]
theorem edF_len : ∀ (k : Nat) (xs ys : List Str), (edF k xs ys).length ≤ xs.length + ys.length
  | 0, _, _ => Nat.zero_le _
  | k + 1, [], [] => Nat.zero_le _
  | k + 1, x :: xs, [] => by have := edF_len k xs []; simp only [edF, List.length_cons, List.length_nil] at *; omega
  | k + 1, [], y :: ys => by have := edF_len k [] ys; simp only [edF, List.length_cons, List.length_nil] at *; omega
  | k + 1, x :: xs, y :: ys => by
    have h1 := edF_len k xs ys
    have h2 := edF_len k xs (y :: ys)
    have h3 := edF_len k (x :: xs) ys
    rw [edF]
    simp only [List.length_cons] at *
    split
    · simp only [List.length_cons]; omega
    · split <;> simp only [List.length_cons] <;> omega
theorem ed_len (xs ys : List Str) : (ed xs ys).length ≤ xs.length + ys.length := edF_len _ _ _
def fr : List Str → List Str → Nat
  | x :: xs, y :: ys => if x = y then fr xs ys + 1 else 0
  | _, _ => 0
theorem fr_le : ∀ xs ys : List Str, fr xs ys ≤ xs.length ∧ fr xs ys ≤ ys.length
  | [], _ => by simp [fr]
  | _ :: _, [] => by simp [fr]
  | x :: xs, y :: ys => by
    have := fr_le xs ys
    rw [fr]
    split <;> simp <;> omega
theorem fr_nil (xs : List Str) : fr xs [] = 0 := by cases xs <;> rfl
theorem fr_nil' (ys : List Str) : fr [] ys = 0 := rfl
theorem ed_fr : ∀ xs ys : List Str, ed xs ys = (xs.take (fr xs ys)).map (fun x => (0, x)) ++ ed (xs.drop (fr xs ys)) (ys.drop (fr xs ys))
  | [], ys => by simp [fr]
  | x :: xs, [] => by simp [fr]
  | x :: xs, y :: ys => by
    by_cases e : x = y
    · have ih := ed_fr xs ys
      rw [fr, if_pos e, ed_cons, if_pos e, ih]
      simp
    · rw [fr, if_neg e]
      simp
theorem fr_step (A B : List Str) (n : Nat) (hA : n < A.length) (hB : n < B.length) (h : fr A B = n + fr (A.drop n) (B.drop n)) (e : A.getD n [] = B.getD n []) : fr A B = (n + 1) + fr (A.drop (n + 1)) (B.drop (n + 1)) := by
  rw [h, List.drop_eq_getElem_cons hA, List.drop_eq_getElem_cons hB, fr]
  have e2 : A[n] = B[n] := by
    rw [List.getD_eq_getElem?_getD, List.getD_eq_getElem?_getD, List.getElem?_eq_getElem hA, List.getElem?_eq_getElem hB] at e
    simpa using e
  rw [if_pos e2]
  omega
theorem fr_stop (A B : List Str) (n : Nat) (hA : n < A.length) (hB : n < B.length) (h : fr A B = n + fr (A.drop n) (B.drop n)) (e : A.getD n [] ≠ B.getD n []) : fr A B = n := by
  rw [h, List.drop_eq_getElem_cons hA, List.drop_eq_getElem_cons hB, fr]
  have e2 : ¬ A[n] = B[n] := fun e3 => e (by
    rw [List.getD_eq_getElem?_getD, List.getD_eq_getElem?_getD, List.getElem?_eq_getElem hA, List.getElem?_eq_getElem hB]
    simpa using e3)
  rw [if_neg e2]
  rfl
theorem fr_end (A B : List Str) (n : Nat) (hn : A.length ≤ n ∨ B.length ≤ n) (h : fr A B = n + fr (A.drop n) (B.drop n)) : fr A B = n := by
  rw [h]
  rcases hn with h1 | h1
  · rw [List.drop_of_length_le h1, fr_nil']; rfl
  · rw [List.drop_of_length_le h1, fr_nil]; rfl
def mk (k : Nat) (l : List Str) : List Ed := l.map (fun x => (k, x))
def edL (A B : List Str) : List Ed := mk 0 (A.take (fr A B)) ++ (mk 1 (A.drop (fr A B)) ++ mk 2 (B.drop (fr A B)))
theorem mk_len (k : Nat) (l : List Str) : (mk k l).length = l.length := by simp [mk]
theorem edL_len (A B : List Str) : (edL A B).length ≤ A.length + B.length := by
  have := fr_le A B
  unfold edL
  rw [List.length_append, List.length_append, mk_len, mk_len, mk_len, List.length_take, List.length_drop, List.length_drop]
  omega
def edits (A B : List Str) : List Ed := if 2000 < A.length ∨ 2000 < B.length then edL A B else ed A B
theorem ed_next_keep (A B : List Str) (i k : Nat) (hi : i < A.length) (hk : k < B.length) (e : A.getD i [] = B.getD k []) : ed (A.drop i) (B.drop k) = (0, A.getD i []) :: ed (A.drop (i + 1)) (B.drop (k + 1)) := by
  rw [List.getD_eq_getElem?_getD, List.getElem?_eq_getElem hi] at e ⊢
  rw [List.getD_eq_getElem?_getD, List.getElem?_eq_getElem hk] at e
  simp only [Option.getD_some] at e ⊢
  rw [List.drop_eq_getElem_cons hi, List.drop_eq_getElem_cons hk, ed_cons, if_pos e]
theorem ed_next_end (A B : List Str) (i k : Nat) (hi : i < A.length) (hk : B.length ≤ k) : ed (A.drop i) (B.drop k) = (1, A.getD i []) :: ed (A.drop (i + 1)) (B.drop k) := by
  rw [List.getD_eq_getElem?_getD, List.getElem?_eq_getElem hi, List.drop_of_length_le hk, List.drop_eq_getElem_cons hi, ed_end]
  rfl
theorem ed_next_start (A B : List Str) (i k : Nat) (hi : A.length ≤ i) (hk : k < B.length) : ed (A.drop i) (B.drop k) = (2, B.getD k []) :: ed (A.drop i) (B.drop (k + 1)) := by
  rw [List.getD_eq_getElem?_getD, List.getElem?_eq_getElem hk, List.drop_of_length_le hi, List.drop_eq_getElem_cons hk, ed_start]
  rfl
theorem ed_next_drop (A B : List Str) (i k : Nat) (hi : i < A.length) (hk : k < B.length) (e : A.getD i [] ≠ B.getD k []) (h : lcs (A.drop i) (B.drop (k + 1)) ≤ lcs (A.drop (i + 1)) (B.drop k)) : ed (A.drop i) (B.drop k) = (1, A.getD i []) :: ed (A.drop (i + 1)) (B.drop k) := by
  rw [List.getD_eq_getElem?_getD, List.getElem?_eq_getElem hi] at e ⊢
  rw [List.getD_eq_getElem?_getD, List.getElem?_eq_getElem hk] at e
  simp only [Option.getD_some] at e ⊢
  rw [List.drop_eq_getElem_cons hi, List.drop_eq_getElem_cons hk] at h ⊢
  rw [ed_cons, if_neg e, if_pos h]
theorem ed_next_insert (A B : List Str) (i k : Nat) (hi : i < A.length) (hk : k < B.length) (e : A.getD i [] ≠ B.getD k []) (h : ¬ lcs (A.drop i) (B.drop (k + 1)) ≤ lcs (A.drop (i + 1)) (B.drop k)) : ed (A.drop i) (B.drop k) = (2, B.getD k []) :: ed (A.drop i) (B.drop (k + 1)) := by
  rw [List.getD_eq_getElem?_getD, List.getElem?_eq_getElem hi] at e
  rw [List.getD_eq_getElem?_getD, List.getElem?_eq_getElem hk] at e ⊢
  simp only [Option.getD_some] at e ⊢
  rw [List.drop_eq_getElem_cons hi, List.drop_eq_getElem_cons hk] at h ⊢
  rw [ed_cons, if_neg e, if_neg h]
theorem lcs_eq {α : Type} [DecidableEq α] (d : α) (A B : List α) (i k : Nat) (hi : i < A.length) (hk : k < B.length) : lcs (A.drop i) (B.drop k) = if A.getD i d = B.getD k d then lcs (A.drop (i + 1)) (B.drop (k + 1)) + 1 else max (lcs (A.drop (i + 1)) (B.drop k)) (lcs (A.drop i) (B.drop (k + 1))) := by
  rw [List.getD_eq_getElem?_getD, List.getElem?_eq_getElem hi, List.getD_eq_getElem?_getD, List.getElem?_eq_getElem hk, List.drop_eq_getElem_cons hi, List.drop_eq_getElem_cons hk, lcs_cons]
  rfl
theorem lcs_out {α : Type} [DecidableEq α] (A B : List α) (i k : Nat) (h : A.length ≤ i ∨ B.length ≤ k) : lcs (A.drop i) (B.drop k) = 0 := by
  rcases h with h | h
  · rw [List.drop_of_length_le h, lcs_nil]
  · rw [List.drop_of_length_le h, lcs_nil']
end Go.Proofs.YtmpjapcijjjlbaaGreatDoor
