import Derived.Test.YtmpjapcijjjlbaaGreatDoorQa04
import Derived.Test.YtmpjapcijjjlbaaGreatDoorQa06
import Derived.Laws.IdiomStrings
import Derived.Test.YtmpjapcijjjlbaaGreatDoorQa05
namespace Go.Proofs.YtmpjapcijjjlbaaGreatDoor
open Go.RowKit
set_option linter.unusedVariables false
set_option linter.unusedSimpArgs false
theorem info5b : (Tryz.prog.info? 5).map (fun i => (i.zero, i.size, i.bytes)) = some (some (.int .u8 0), 1, 1) := by kernel_rfl
def Oth (b : Nat) (w w' : World) : Prop := ∀ (k : Nat) (cs : Array Value) (t : TypeId) (z : Nat × Nat), w.heap[k]? = some (.cells cs t z) → k ≠ b → t ≠ 5 → w'.heap[k]? = some (.cells cs t z)
theorem oth_set (b o : Nat) (v : Value) (w : World) : Oth b w (w.setCell ⟨b, o, none⟩ v) := fun k cs t z h hk _ => by
  have : ((w.setCell ⟨b, o, none⟩ v).heap[k]?) = w.heap[k]? := by
    unfold World.setCell
    simp only [Array.getElem?_modify]
    rw [if_neg (fun e => hk e.symm)]
  rw [this]
  exact h
theorem Oth.trans {b : Nat} {w w' w'' : World} (h : Oth b w w') (h' : Oth b w' w'') : Oth b w w'' := fun k cs t z hk hb ht => h' k cs t z (h k cs t z hk hb ht) hb ht
theorem copyCheck_any (B b : Nat) (bs : List Value) (w : World) (h : Lib.IsBuilder 71 5 B b bs w) : Calls Tryz.prog 54 #[.pointer (some ⟨b, 0, none⟩)] w fun e w' => e = .returned (.tuple #[]) ∧ Lib.BuilderAt 71 5 B b (.pointer (some ⟨b, 0, none⟩)) bs w' ∧ Below B w w' ∧ Oth b w w' := by
  rcases h with h | h
  · refine (Any.Builder_copyCheck_fresh Tryz.lays240 Tryz.Builder_Extra_240.toX72 b w h.cell0 h.shape h.frozen0).mono ?_
    rintro e w' ⟨rfl, rfl⟩
    exact ⟨rfl, h.used _, (Below.refl B w).setCell (p := ⟨b, 0, none⟩) h.1 _, oth_set b 0 _ w⟩
  · refine (Any.Builder_copyCheck_used Tryz.lays240 Tryz.Builder_Extra_240.toX72 b w h.cell0).mono ?_
    rintro e w' ⟨rfl, rfl⟩
    exact ⟨rfl, h, Below.refl B _, fun k cs t z hk _ _ => hk⟩
set_option maxHeartbeats 2000000 in
set_option maxRecDepth 100000 in
theorem writeString_any (B b : Nat) (bs : List Value) (s : ByteArray) (w : World) (h : Lib.IsBuilder 71 5 B b bs w) (hlen : bs.length + s.size ≤ 140737488355328) (hBw : B ≤ w.heap.size) :
    Calls Tryz.prog 30 #[.pointer (some ⟨b, 0, none⟩), .string s] w fun e w' => e = .returned (.tuple #[.int .i64 s.size, .nilIface]) ∧ Lib.BuilderAt 71 5 B b (.pointer (some ⟨b, 0, none⟩)) (bs ++ Lib.strCells s) w' ∧ Below B w w' ∧ Oth b w w' := by
  obtain ⟨i0, hi, hz0, hz1, hz2⟩ := info_parts info5b
  have HC : Hid (Calls Tryz.prog 54 #[.pointer (some ⟨b, 0, none⟩)] w fun e w' => e = .returned (.tuple #[]) ∧ Lib.BuilderAt 71 5 B b (.pointer (some ⟨b, 0, none⟩)) bs w' ∧ Below B w w' ∧ Oth b w w') := copyCheck_any B b bs w h
  clear h
  go_enter Tryz.func30, Tryz.ntmps30
  go_wp2_with fail
  refine HC.out.mono ?_
  rintro e w1 ⟨rfl, ⟨hB, v, hbk, hown, hne⟩, hb1, ho1⟩
  have c0 : w1.cell? ⟨b, 0, none⟩ = some (.pointer (some ⟨b, 0, none⟩)) := by rw [Lib.cell_of_heap hbk]; rfl
  have c1 : w1.cell? ⟨b, 1, none⟩ = some v := by rw [Lib.cell_of_heap hbk]; rfl
  go_wp2_with (at_builtin; refine Lib.wpList_append_own_string _ rfl _ _ 22 9 rfl B 5 i0 Tryz.underlying22 Tryz.underlying9 hi hz0 hz1 hz2 _ _ _ rfl hown s rfl ?c3 ?c4 ?c5 ?_)
  case c3 => unfold maxLen; omega
  case c4 => omega
  case c5 => have := hb1.size; omega
  intro v' w2 hown' hgrow _
  have hlt : b < w1.heap.size := lt_of_some hbk
  have hb2 : w2.heap[b]? = some (.cells #[.pointer (some ⟨b, 0, none⟩), v] 71 (0, 0)) := (hgrow.block b hlt (fun e => hne e.symm)).trans hbk
  have HO2 : Hid (Oth b w w2) := hid (ho1.trans (fun k cs t z hk hkb ht => by
    rw [hgrow.block k (lt_of_some hk) (fun e => by
      rcases hown.2 with ⟨rfl, _⟩ | ⟨g, cap, cur, rfl, _, hg, _⟩
      · cases e
      · simp only [Value.ownBlock, Option.some.injEq] at e
        subst e
        rw [hk] at hg
        simp only [Option.some.injEq, Obj.cells.injEq] at hg
        exact ht hg.2.1)]
    exact hk))
  have d0 : w2.cell? ⟨b, 0, none⟩ = some (.pointer (some ⟨b, 0, none⟩)) := by rw [Lib.cell_of_heap hb2]; rfl
  have d1 : w2.cell? ⟨b, 1, none⟩ = some v := by rw [Lib.cell_of_heap hb2]; rfl
  have f1 : w2.frozen? ⟨b, 1, none⟩ = false := Lib.frozen_of_heap hb2 1
  obtain ⟨ao, cap, rfl⟩ := owns_shape hown'
  go_wp2
  go_ret2
  refine ⟨rfl, ?_, ?_, HO2.out.trans (oth_set b 1 _ w2)⟩
  · exact Lib.BuilderAt.put (T := 71) (e := 5) hB hb2 (bs' := bs ++ Lib.strCells s) (by simpa [Lib.strCells_length] using hown') (by decide)
  · exact (hb1.grown hgrow (by have := hb1.size; omega) (fun k hk => (hown.lt k hk).1)).setCell (p := ⟨b, 1, none⟩) hB _
theorem builder_below {B b : Nat} {p : Value} {bs : List Value} {w w' : World} (h : Lib.BuilderAt 71 5 B b p bs w) (hb : Below w.heap.size w w') : Lib.BuilderAt 71 5 B b p bs w' := by
  obtain ⟨hB, v, hbk, hown, hne⟩ := h
  exact ⟨hB, v, (hb.block b (lt_of_some hbk)).trans hbk, hown.kept (row := none) (grown_of_below hb none) (by cases h : v.ownBlock <;> simp), hne⟩
theorem is_below {B b : Nat} {bs : List Value} {w w' : World} (h : Lib.IsBuilder 71 5 B b bs w) (hb : Below w.heap.size w w') : Lib.IsBuilder 71 5 B b bs w' :=
  h.elim (fun x => .inl (builder_below x hb)) (fun x => .inr (builder_below x hb))
theorem str_bytes (l : Str) : Lib.strCells ⟨l.toArray⟩ = Lib.byteCells l := by
  unfold Lib.strCells Lib.byteCells
  simp
theorem bytes_app (l m : Str) : Lib.byteCells l ++ Lib.byteCells m = Lib.byteCells (l ++ m) := by
  unfold Lib.byteCells
  simp
theorem builder_str (B b : Nat) (l : Str) (w : World) (h : Lib.IsBuilder 71 5 B b (Lib.byteCells l) w) (h0 : l ≠ []) : Calls Tryz.prog 33 #[.pointer (some ⟨b, 0, none⟩)] w fun e w' => e = .returned (.string ⟨l.toArray⟩) ∧ Below B w w' :=
  Any.Builder_String Tryz.lays169 Tryz.Builder_Extra_169 B b l w h h0
theorem builder_none (B b : Nat) (p : Value) (w : World) (h : w.heap[b]? = some (.cells #[p, .slice none 0 0] 71 (0, 0))) : Calls Tryz.prog 33 #[.pointer (some ⟨b, 0, none⟩)] w fun e w' => e = .returned (.string ⟨#[]⟩) ∧ Below B w w' :=
  Any.Builder_String_nil Tryz.lays169 Tryz.Builder_Extra_169 B b p w h
end Go.Proofs.YtmpjapcijjjlbaaGreatDoor
namespace Go.Proofs.YtmpjapcijjjlbaaGreatDoor
open Go.RowKit
set_option linter.unusedVariables false
set_option linter.unusedSimpArgs false
theorem conv_bytes (l : Str) (w : World) : ∃ cap w', (convert 9 22 (.string ⟨l.toArray⟩)).run Tryz.prog w = .ok (.slice (some ⟨w.heap.size, 0, none⟩) l.length cap) w' ∧ PB w' (some ⟨w.heap.size, 0, none⟩) cap l ∧ Below w.heap.size w w' := by
  have hr := run_bytes_of_string (P := Tryz.prog) w 9 22 5 ⟨l.toArray⟩ Tryz.underlying9 Tryz.underlying22 Tryz.underlying5
  have hsz : (⟨l.toArray⟩ : ByteArray).size = l.length := by simp [ByteArray.size]
  rw [hsz] at hr
  have hge := grownCap_ge w l.length 0 5
  generalize grownCap w l.length 0 5 = cap at hr hge
  have h1 : ∀ i, i < l.length → (bytesRow ⟨l.toArray⟩ cap)[i]? = some (.int .u8 ((l.getD i 0).toNat : Int)) := fun i hi => by
    simp [bytesRow, hi, Array.getElem?_append]
  generalize bytesRow ⟨l.toArray⟩ cap = R at hr h1
  have hh : (w.drew.alloc (.cells R 5 (R.size, R.size + 1))).heap[w.heap.size]? = some (.cells R 5 (R.size, R.size + 1)) := by
    show (w.heap.push _)[w.heap.size]? = _
    simp
  refine ⟨cap, _, hr, ⟨hge, fun _ => ⟨_, 0, rfl, by simp, fun i hi j v hv => ?_⟩, fun h => by cases h⟩, rfl, rfl, rfl, by simp, fun k hk => ?_⟩
  · have hj : j = 0 := by
      have := (List.getElem?_eq_some_iff.1 hv).1
      simp [encB] at this
      exact this
    subst hj
    rw [Nat.zero_add, Nat.mul_one, Nat.add_zero, World.cell?, hh]
    have := h1 i hi
    simp [encB] at hv
    rw [← hv]
    exact this
  · show (w.heap.push _)[k]? = _
    rw [Array.getElem?_push_lt hk, Array.getElem?_eq_getElem hk]
theorem headT_le (a n b m : Nat) (ha : a ≤ 1000000000) (hn : n ≤ 1000000000) (hb : b ≤ 1000000000) (hm : m ≤ 1000000000) : (headT a n b m).length ≤ 60 := by
  have h1 := plc_len a n ha hn
  have h2 := plc_len b m hb hm
  unfold headT
  simp only [List.length_append, List.length_cons, List.length_nil]
  omega
def PostY (l : Str) (w : World) : Ending → World → Prop := fun e w' => ∃ a cap, e = .returned (.slice a l.length cap) ∧ PB w' a cap l ∧ Below w.heap.size w w'
end Go.Proofs.YtmpjapcijjjlbaaGreatDoor
namespace Go.Proofs.YtmpjapcijjjlbaaGreatDoor
open Go.RowKit
set_option linter.unusedVariables false
set_option linter.unusedSimpArgs false
abbrev Bd (G : Nat) (w : World) (l : Str) : Prop := Lib.IsBuilder 71 5 G G (Lib.byteCells l) w
theorem ws_any (G : Nat) (W : World) (T X : Str) (h : Bd G W T) (hl : T.length + X.length ≤ 1000000000000) (hG : G ≤ W.heap.size) : Calls Tryz.prog 30 #[.pointer (some ⟨G, 0, none⟩), .string ⟨X.toArray⟩] W fun e w' => (∃ v, e = .returned v) ∧ Bd G w' (T ++ X) ∧ Below G W w' ∧ Oth G W w' := by
  refine (writeString_any G G (Lib.byteCells T) ⟨X.toArray⟩ W h (by rw [Lib.byteCells_length]; show T.length + X.toArray.size ≤ _; simp; omega) hG).mono ?_
  rintro e w' ⟨rfl, h1, h2, h3⟩
  refine ⟨⟨_, rfl⟩, .inr ?_, h2, h3⟩
  rw [str_bytes, bytes_app] at h1
  exact h1
end Go.Proofs.YtmpjapcijjjlbaaGreatDoor
namespace Go.Proofs.YtmpjapcijjjlbaaGreatDoor
open Go.RowKit
set_option linter.unusedVariables false
set_option linter.unusedSimpArgs false
def hkG (y : Gh) : Str := headT y.1.toNat (cA y.2.2.2.2) y.2.1.toNat (cB y.2.2.2.2) ++ y.2.2.2.2.flatMap lineT
def NOk (S : List Gh) : Prop := ∀ y ∈ S, (∃ x : Nat, y.1 = x ∧ x ≤ 1000000000) ∧ (∃ z : Nat, y.2.1 = z ∧ z ≤ 1000000000) ∧ y.2.2.2.2.length ≤ 1000000 ∧ LOk y.2.2.2.2
theorem PG.three {w : World} {b off cap : Nat} {l : List Gh} (h : PG w (some ⟨b, off, none⟩) cap l) (i : Nat) (hi : i < l.length) : w.cell? ⟨b, off + i * 3, none⟩ = some (.int .i64 (l.getD i g0).1) ∧ w.cell? ⟨b, off + i * 3 + 1, none⟩ = some (.int .i64 (l.getD i g0).2.1) ∧ w.cell? ⟨b, off + i * 3 + 2, none⟩ = some (slE (l.getD i g0)) := by
  obtain ⟨b', off', e1, _, e3⟩ := h.at_ (by omega)
  cases e1
  exact ⟨e3 i hi 0 _ rfl, e3 i hi 1 _ rfl, e3 i hi 2 _ rfl⟩
theorem flat_take {α : Type} (f : α → Str) (l : List α) (k : Nat) : ((l.take k).flatMap f).length ≤ (l.flatMap f).length := by
  conv => rhs; rw [← List.take_append_drop k l]
  rw [List.flatMap_append, List.length_append]
  omega
set_option maxRecDepth 20000 in
set_option maxHeartbeats 2000000 in
theorem writeHunksG_any {w : World} (ha : Option Addr) (hc : Nat) (S : List Gh) (hS : PG w ha hc S) (hq : S.length ≤ 1000000) (hE : ∀ y ∈ S, PE w y.2.2.1 y.2.2.2.1 y.2.2.2.2) (hok : NOk S) (hT : (S.flatMap hkG).length ≤ 100000000000) (ht : Tab w) :
    Calls Tryz.prog 16 #[.slice ha S.length hc] w (PostY (S.flatMap hkG) w) := by
  obtain ⟨G, HG⟩ : ∃ G, Hid (w.heap.size = G) := ⟨_, rfl⟩
  obtain ⟨q, HQ⟩ : ∃ q, Hid (S.length = q) := ⟨_, rfl⟩
  have hq4 : q ≤ 1000000 := by rw [← HQ.out]; exact hq
  have HOK : Hid (NOk S) := hok
  have HTT : Hid ((S.flatMap hkG).length ≤ 100000000000) := hid hT
  have HPE : Hid (∀ W, Below G w W → ∀ y ∈ S, PE W y.2.2.1 y.2.2.2.1 y.2.2.2.2) := fun W hW y hy => (hE y hy).below (by rw [HG.out]; exact hW)
  have HPS : Hid (∀ W, Below G w W → PG W ha hc S) := fun W hW => hS.below (by rw [HG.out]; exact hW)
  have HTB : Hid (∀ W, Below G w W → Tab W) := fun W hW => ht.below (by rw [HG.out]; exact hW)
  have HFS : Hid (0 < q → ∃ b off, ha = some ⟨b, off, none⟩) := fun h0 => by
    obtain ⟨b, off, e1, _⟩ := hS.at_ (by rw [HQ.out]; exact h0)
    exact ⟨b, off, e1⟩
  have HB0 : Hid (Bd G (w.alloc (.cells #[.pointer none, .slice none 0 0] 71)) []) := hid (.inl (by
    refine ⟨Nat.le_refl _, .slice none 0 0, ?_, ⟨by simp, .inl ⟨rfl, rfl⟩⟩, by simp [Value.ownBlock]⟩
    rw [← HG.out]
    exact heap_alloc_new w _))
  have HW0 : Hid (Below G w (w.alloc (.cells #[.pointer none, .slice none 0 0] 71))) := hid ((Below.refl _ w).alloc (by rw [HG.out]; exact Nat.le_refl _) _)
  rw [HQ.out]
  clear hS hq hE hok hT ht
  go_enter Tryz.func16, Tryz.ntmps16
  go_wp2_with fail
  try rw [HG.out]
  go_loopg [10] q (fun gg iv wr => ∃ (i : Nat), iv = .int .i64 i ∧ i ≤ q ∧ gg = q - i ∧ Hid (Below G w wr) ∧ Hid (Bd G wr ((S.take i).flatMap hkG)) ∧ Hid (G < wr.heap.size) ∧ Hid (i = 0 → wr.heap[G]? = some (.cells #[.pointer none, .slice none 0 0] 71 (0, 0))))
  case atStart => exact ⟨0, rfl, Nat.zero_le _, rfl, HW0, HB0, hid (by rw [← HG.out]; simp), hid (fun _ => by rw [← HG.out]; exact heap_alloc_new w _)⟩
  case round =>
    obtain ⟨i, rfl, hi, hk, HB, HBd, HGs, HFr⟩ := hrel
    by_cases hlt : i < q
    · have hlti : (i : Int) < (q : Int) := by omega
      obtain ⟨b, off, e1⟩ := HFS.out (by omega)
      subst e1
      have hil : i < S.length := by rw [HQ.out]; exact hlt
      have hmem := getD_mem S i g0 hil
      obtain ⟨hc0, hc1, hc2⟩ := PG.three (HPS.out _ HB.out) i hil
      obtain ⟨s, HS⟩ : ∃ s, Hid (S.getD i g0 = s) := ⟨_, rfl⟩
      rw [HS.out] at hc0 hc1 hc2 hmem
      obtain ⟨⟨x, hx1, hx4⟩, ⟨y, hy1, hy4⟩, hel, hlok⟩ := HOK.out s hmem
      have HPM0 : Hid (∀ W, Below G w W → PE W s.2.2.1 s.2.2.2.1 s.2.2.2.2) := fun W hW => HPE.out W hW s hmem
      obtain ⟨sa, sb, z, zc, M⟩ := s
      simp only at hx1 hy1 hel hlok hc0 hc1 hc2
      subst hx1 hy1
      obtain ⟨l, HLn⟩ : ∃ k, Hid (M.length = k) := ⟨_, rfl⟩
      have HMl : Hid (M.length = l) := HLn
      have hl4 : l ≤ 1000000 := by rw [← HLn.out]; exact hel
      have HPM : Hid (∀ W, Below G w W → PE W z zc M) := HPM0
      have HMe : Hid (∀ e ∈ M, e.1 ≤ 2 ∧ e.2.length ≤ 1000000) := hlok
      unfold slE at hc2
      simp only at hc2
      rw [HLn.out] at hc2
      clear hel hlok hmem
      obtain ⟨T0, HT0⟩ : ∃ T, Hid ((S.take i).flatMap hkG = T) := ⟨_, rfl⟩
      obtain ⟨H0, HH0⟩ : ∃ T, Hid (headT x (cA M) y (cB M) = T) := ⟨_, rfl⟩
      have HTK : Hid ((S.take (i + 1)).flatMap hkG = T0 ++ (H0 ++ M.flatMap lineT)) := hid (by
        rw [take_snocG g0 S i hil, List.flatMap_append, HT0.out, HS.out, List.flatMap_cons, List.flatMap_nil, List.append_nil, hkG]
        simp only [Int.toNat_natCast]
        rw [HH0.out])
      have HTl : Hid (T0.length + (H0.length + (M.flatMap lineT).length) ≤ 100000000000) := hid (by
        have h1 := flat_take hkG S (i + 1)
        rw [HTK.out, List.length_append, List.length_append] at h1
        have := HTT.out
        omega)
      clear hil
      have hH0 : H0.length ≤ 60 := by
        rw [← HH0.out]
        exact headT_le _ _ _ _ (by omega) (by have := cA_le M; have := HMl.out; omega) (by omega) (by have := cB_le M; have := HMl.out; omega)
      obtain ⟨g, HGg⟩ : ∃ g, Hid (wr.heap.size = g) := ⟨_, rfl⟩
      obtain ⟨wa, HWa⟩ : ∃ u, Hid (wr.alloc (.cells #[.int .i64 (x : Int), .int .i64 (y : Int), .slice z l zc] 73) = u) := ⟨_, rfl⟩
      have HBa : Hid (Below G w wa) := hid (by rw [← HWa.out]; exact HB.out.alloc (Nat.le_of_lt HGs.out) _)
      have HBw : Hid (Below wr.heap.size wr wa) := hid (by rw [← HWa.out]; exact (Below.refl _ wr).alloc (Nat.le_refl _) _)
      have HBda : Hid (Bd G wa T0) := hid (by rw [← HT0.out]; exact is_below HBd.out HBw.out)
      have HGa : Hid (wa.heap[g]? = some (.cells #[.int .i64 (x : Int), .int .i64 (y : Int), .slice z l zc] 73)) := hid (by rw [← HWa.out, ← HGg.out]; exact heap_alloc_new wr _)
      have C14 : Hid (Calls Tryz.prog 31 #[.agg #[.int .i64 (x : Int), .int .i64 (y : Int), .slice z l zc]] wa fun e w' => e = .returned (.string ⟨H0.toArray⟩) ∧ Below wa.heap.size wa w') := hid (by
        have := head_any x y z zc M (HPM.out wa HBa.out) (by rw [HMl.out]; omega) (by omega) (by omega) (HTB.out wa HBa.out)
        rw [HMl.out, HH0.out] at this
        exact this)
      have HGG : Hid (G < g) := hid (by rw [← HGg.out]; exact HGs.out)
      go_wp2_with fail
      rw [HWa.out, HGg.out]
      refine C14.out.mono ?_
      rintro ev w2 ⟨rfl, hb2⟩
      have HGwa : Hid (G ≤ wa.heap.size) := hid (Nat.le_trans (Nat.le_of_lt HGs.out) HBw.out.size)
      have HBd2 : Hid (Bd G w2 T0) := hid (is_below HBda.out hb2)
      have HB2 : Hid (Below G w w2) := hid (HBa.out.trans (hb2.mono HGwa.out))
      have HGa2 : Hid (w2.heap[g]? = some (.cells #[.int .i64 (x : Int), .int .i64 (y : Int), .slice z l zc] 73)) := hid ((hb2.block g (lt_of_some HGa.out)).trans HGa.out)
      have C13 : Hid (Calls Tryz.prog 30 #[.pointer (some ⟨G, 0, none⟩), .string ⟨H0.toArray⟩] w2 fun e w' => (∃ v, e = .returned v) ∧ Bd G w' (T0 ++ H0) ∧ Below G w2 w' ∧ Oth G w2 w') := hid (ws_any G w2 T0 H0 HBd2.out (by have := HTl.out; omega) (Nat.le_trans HGwa.out hb2.size))
      clear hb2
      go_wp2_with fail
      refine C13.out.mono ?_
      rintro ev w3 ⟨⟨v3, rfl⟩, hbd3, hb3, ho3⟩
      have HBd3 : Hid (Bd G w3 (T0 ++ H0)) := hbd3
      have HB3 : Hid (Below G w w3) := hid (HB2.out.trans hb3)
      have HGa3 : Hid (w3.heap[g]? = some (.cells #[.int .i64 (x : Int), .int .i64 (y : Int), .slice z l zc] 73)) := hid (ho3 g _ 73 _ HGa2.out (fun e => by have := HGG.out; omega) (by decide))
      have hd2 : w3.cell? ⟨g, 2, none⟩ = some (.slice z l zc) := by rw [Lib.cell_of_heap HGa3.out]; rfl
      have HG3 : Hid (G < w3.heap.size) := hid (Nat.lt_trans HGG.out (lt_of_some HGa3.out))
      clear hbd3 hb3 ho3
      go_wp2_with fail
      go_loopg [20] l (fun gg iv wq => ∃ (k : Nat), iv = .int .i64 k ∧ k ≤ l ∧ gg = l - k ∧ Hid (Below G w wq) ∧ Hid (Bd G wq (T0 ++ H0 ++ (M.take k).flatMap lineT)) ∧ Hid (G < wq.heap.size))
      case atStart => exact ⟨0, rfl, Nat.zero_le _, rfl, HB3, hid (by simpa using HBd3.out), HG3⟩
      case round =>
        clear hd2 hc0 hc1 hc2
        obtain ⟨k, rfl, hkl, hkk, HBq, HBdq, HGq⟩ := hrel
        by_cases hkt : k < l
        · have hkti : (k : Int) < (l : Int) := by omega
          obtain ⟨zb, zo, e2⟩ : ∃ zb zo, z = some ⟨zb, zo, none⟩ := by
            obtain ⟨b', off', e1, _⟩ := (HPM.out _ HBq.out).at_ (by rw [HMl.out]; omega)
            exact ⟨b', off', e1⟩
          subst e2
          obtain ⟨kd, HKd⟩ : ∃ k', Hid ((M.getD k (0, [])).1 = k') := ⟨_, rfl⟩
          obtain ⟨xs, HXs⟩ : ∃ X, Hid ((M.getD k (0, [])).2 = X) := ⟨_, rfl⟩
          obtain ⟨hm1, hm2⟩ := HMe.out _ (getD_mem M k (0, []) (by rw [HMl.out]; exact hkt))
          rw [HKd.out] at hm1
          rw [HXs.out] at hm2
          obtain ⟨hd0, hd1⟩ := PE.two (HPM.out _ HBq.out) k (by rw [HMl.out]; exact hkt)
          rw [HKd.out] at hd0
          rw [HXs.out] at hd1
          obtain ⟨X, HX2⟩ : ∃ X, Hid ((⟨xs.toArray⟩ : ByteArray) = X) := ⟨_, rfl⟩
          rw [HX2.out] at hd1
          obtain ⟨T1, HT1⟩ : ∃ T, Hid (T0 ++ H0 ++ (M.take k).flatMap lineT = T) := ⟨_, rfl⟩
          obtain ⟨Y, HYl⟩ : ∃ T, Hid (lineT (kd, xs) = T) := ⟨_, rfl⟩
          have HTK1 : Hid (T0 ++ H0 ++ (M.take (k + 1)).flatMap lineT = T1 ++ Y) := hid (by
            rw [take_snocG (0, []) M k (by rw [HMl.out]; exact hkt), List.flatMap_append, List.flatMap_cons, List.flatMap_nil, List.append_nil, show M.getD k (0, []) = (kd, xs) by rw [← HKd.out, ← HXs.out], HYl.out, ← HT1.out, List.append_assoc (T0 ++ H0)])
          have HT1l : Hid (T1.length + Y.length ≤ 1000000000000) := hid (by
            have h1 := flat_take lineT M (k + 1)
            have h2 := congrArg List.length HTK1.out
            rw [List.length_append, List.length_append, List.length_append] at h2
            have h5 := HTl.out
            omega)
          obtain ⟨wb, HWb⟩ : ∃ u, Hid (wr.alloc (.cells #[.int .i64 (kd : Int), .string X] 43) = u) := ⟨_, rfl⟩
          have HBb : Hid (Below wr.heap.size wr wb) := hid (by rw [← HWb.out]; exact (Below.refl _ wr).alloc (Nat.le_refl _) _)
          have C15 : Hid (Calls Tryz.prog 32 #[.agg #[.int .i64 (kd : Int), .string X]] wb fun e w' => e = .returned (.string ⟨Y.toArray⟩) ∧ Below wb.heap.size wb w') := hid (by
            rw [← HX2.out, ← HYl.out]
            exact writeEdit_any kd xs hm1 (by omega) wb)
          go_wp2_with fail
          rw [HWb.out]
          refine C15.out.mono ?_
          rintro ev w5 ⟨rfl, hb5⟩
          have HB5 : Hid (Below wr.heap.size wr w5) := hid (HBb.out.trans (hb5.mono HBb.out.size))
          have HBd5 : Hid (Bd G w5 T1) := hid (by rw [← HT1.out]; exact is_below HBdq.out HB5.out)
          have HG5 : Hid (G < w5.heap.size) := hid (Nat.lt_of_lt_of_le HGq.out HB5.out.size)
          have HBw5 : Hid (Below G w w5) := hid (HBq.out.trans (HB5.out.mono (Nat.le_of_lt HGq.out)))
          have C13 : Hid (Calls Tryz.prog 30 #[.pointer (some ⟨G, 0, none⟩), .string ⟨Y.toArray⟩] w5 fun e w' => (∃ v, e = .returned v) ∧ Bd G w' (T1 ++ Y) ∧ Below G w5 w' ∧ Oth G w5 w') := hid (ws_any G w5 T1 Y HBd5.out HT1l.out (Nat.le_of_lt HG5.out))
          clear hb5
          go_wp2_with fail
          refine C13.out.mono ?_
          rintro ev w6 ⟨⟨v6, rfl⟩, hbd6, hb6, _⟩
          have HBd6 : Hid (Bd G w6 (T1 ++ Y)) := hbd6
          have HB6 : Hid (Below G w w6) := hid (HBw5.out.trans hb6)
          have HG6 : Hid (G < w6.heap.size) := hid (Nat.lt_of_lt_of_le HG5.out hb6.size)
          clear hbd6 hb6
          go_wp2_with fail
          go_roundg (l - (k + 1))
          case measure => omega
          case rel => exact ⟨k + 1, by go_num, by omega, rfl, HB6, hid (by rw [HTK1.out]; exact HBd6.out), HG6⟩
        · have hge : ¬ ((k : Int) < (l : Int)) := by omega
          have HE : Hid (T0 ++ H0 ++ (M.take k).flatMap lineT = (S.take (i + 1)).flatMap hkG) := hid (by
            rw [List.take_of_length_le (by rw [HMl.out]; omega), HTK.out, List.append_assoc])
          go_wp2_with fail
          go_roundg (q - (i + 1))
          case measure => omega
          case rel => exact ⟨i + 1, by go_num, by omega, rfl, HBq, hid (by rw [← HE.out]; exact HBdq.out), HGq, hid (fun h => by omega)⟩
    · have hge : ¬ ((i : Int) < (q : Int)) := by omega
      have ei : i = q := by omega
      subst ei
      obtain ⟨T, HT⟩ : ∃ T, Hid (S.flatMap hkG = T) := ⟨_, rfl⟩
      have HBT : Hid (Bd G wr T) := hid (by
        have h := HBd.out
        rw [List.take_of_length_le (by rw [HQ.out]; exact Nat.le_refl _), HT.out] at h
        exact h)
      have C16 : Hid (Calls Tryz.prog 33 #[.pointer (some ⟨G, 0, none⟩)] wr fun e w' => e = .returned (.string ⟨T.toArray⟩) ∧ Below G wr w') := hid (by
        by_cases h0 : T = []
        · have hS0 : S = [] := by
            cases S with
            | nil => rfl
            | cons s0 S0 =>
              rw [← HT.out] at h0
              simp [hkG, headT] at h0
          have hi0 : i = 0 := by rw [← HQ.out, hS0]; rfl
          rw [h0]
          exact builder_none G G _ wr (HFr.out hi0)
        · exact builder_str G G T wr HBT.out h0)
      go_wp2_with fail
      refine C16.out.mono ?_
      rintro ev w4 ⟨rfl, hb4⟩
      obtain ⟨cap, w5, hcv, hpb, hb5⟩ := conv_bytes T w4
      have HPB : Hid (PB w5 (some ⟨w4.heap.size, 0, none⟩) cap T) := hpb
      have HB5 : Hid (Below G w w5) := hid (HB.out.trans (hb4.trans (hb5.mono (by have := HGs.out; have := hb4.size; omega))))
      clear hb4 hpb hb5
      go_wp2_with fail
      go_ret
      have e := HT.out
      subst e
      exact ⟨_, _, rfl, HPB.out, by rw [HG.out]; exact HB5.out⟩
end Go.Proofs.YtmpjapcijjjlbaaGreatDoor
