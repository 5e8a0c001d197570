import Derived.Test.YtijeogdnjeamaaaGreatDoorQp06
import Derived.Test.YtijeogdnjeamaaaGreatDoorQp02
import Derived.Deep.AppendLies
import Derived.Deep.LoopGhost
import Derived.Deep.RegionWith
import Derived.Deep.QuietTactic
import Derived.BigQuiet
import Derived.WalkLawsBesides
import Derived.WalkSpells
import Derived.Laws.BitsAllLaws
import Derived.Laws.CopyOwn
import Derived.Laws.IdiomCopy
import Derived.Deep.RegionHeld3
import Derived.Deep.RegionLaw
import Derived.Deep.DrawnRows
import Derived.Deep.MidRow
import Derived.Laws.BytesArg
import Derived.Laws.Externs
namespace Go.Proofs.YtijeogdnjeamaaaGreatDoor
open Go.RowKit
set_option linter.unusedVariables false
set_option linter.unusedSimpArgs false
def tx (s : Str) : Str := if s = [] then [] else s ++ [10]
set_option maxRecDepth 20000 in
set_option maxHeartbeats 4000000 in
theorem writeTexts_any {w : World} (v0 : Value) (l : List Str) (hC : Calls Tryz.prog 58 #[v0] w fun e w' => Below w.heap.size w w' ∧ ∃ a c, e = .returned (.slice a l.length c) ∧ PS w' a c l) (hn : l.length ≤ 900) (hlen : ∀ s ∈ l, s.length ≤ 990) (hd : Db w) : Calls Tryz.prog 31 #[v0] w (PostNu w.heap.size (pktL (l.map tx)) w) := by
  obtain ⟨k, HK⟩ : ∃ k, Hid (l.length = k) := ⟨_, rfl⟩
  have HC := hid hC
  rw [HK.out] at HC hn
  have HLN := hid hlen
  have HD := hid hd
  clear hC hlen hd
  go_enter Tryz.func31, Tryz.ntmps31
  go_wp2_with fail
  refine HC.out.mono ?_
  rintro e w1 ⟨hb1, a, c, rfl, hps⟩
  obtain ⟨B, HBB⟩ : ∃ B, Hid (w1.heap.size = B) := ⟨_, rfl⟩
  have HB1 := hid hb1
  have HPS : Hid (∀ W, Below B w1 W → PS W a c l) := hid (fun W hW => hps.below (by rw [HBB.out]; exact hW))
  have HDW : Hid (∀ W, Below B w1 W → Db W) := hid (fun W hW => (HD.out.below hb1).b hW HBB.out.symm)
  have HFA : Hid (0 < k → ∃ b off, a = some ⟨b, off, none⟩) := hid (fun h0 => by
    obtain ⟨b, off, e1, _⟩ := hps.at_ (by rw [HK.out]; exact h0)
    exact ⟨b, off, e1⟩)
  have S0 : Hid (Wst B w1 w1 (.slice none 0 0) (pktL ((l.take 0).map tx))) := hid ⟨⟨rfl, .inl ⟨rfl, rfl⟩⟩, Below.refl _ _, by rw [HBB.out]; exact Nat.le_refl _⟩
  clear hb1 hps
  go_wp2_with fail
  go_loopg [3, 9] k (fun gg bv0 iv wr => ∃ i : Nat, iv = .int .i64 i ∧ i ≤ k ∧ gg = k - i ∧ Hid (Wst B w1 wr bv0 (pktL ((l.take i).map tx))) ∧ Hid ((pktL ((l.take i).map tx)).length ≤ 1004 * i))
  case atStart => exact ⟨0, rfl, Nat.zero_le _, rfl, S0, hid (by simp [pktL])⟩
  case round =>
    obtain ⟨i, rfl, hi, hk, HS, HSL⟩ := hrel
    by_cases hlt : i < k
    · have hlti : (i : Int) < (k : Int) := by omega
      obtain ⟨b, off, rfl⟩ := HFA.out (by omega)
      have hil : i < l.length := by rw [HK.out]; exact hlt
      obtain ⟨x, HX⟩ : ∃ x, Hid (l.getD i [] = x) := ⟨_, rfl⟩
      obtain ⟨X, HXb⟩ : ∃ X : ByteArray, Hid (⟨x.toArray⟩ = X) := ⟨_, hid rfl⟩
      have HXL : Hid (x.length ≤ 990) := hid (by rw [← HX.out]; exact HLN.out _ (getD_mem l i [] hil))
      have kc : wr.cell? ⟨b, off + i, none⟩ = some (.string X) := by
        obtain ⟨b', off', e1, _, e3⟩ := (HPS.out wr HS.out.bl).at_ (by omega)
        cases e1
        have := e3 i hil 0 _ rfl
        rw [show off + i * 1 + 0 = off + i by omega, HX.out, sV_out, HXb.out] at this
        exact this
      have HTK : Hid (pktL ((l.take (i + 1)).map tx) = pktL ((l.take i).map tx) ++ pkt (tx x)) := hid (by
        rw [take_snocG [] l i hil, HX.out, List.map_append, pktL_app]
        simp [pktL])
      have HSL2 : Hid ((pktL ((l.take (i + 1)).map tx)).length ≤ 1004 * (i + 1)) := hid (by
        rw [HTK.out, List.length_append, pkt_len]
        have h1 := HSL.out
        have h2 : (tx x).length ≤ 1000 := by
          unfold tx
          have := HXL.out
          split
          · simp
          · rw [List.length_append]; simp; omega
        omega)
      by_cases hx0 : x = []
      · subst hx0
        obtain ⟨Y, HY⟩ : ∃ X : ByteArray, Hid (⟨(tx []).toArray⟩ = X) := ⟨_, hid rfl⟩
        have hXe : X = ⟨#[]⟩ := HXb.out.symm
        have hYe : Y = ⟨#[]⟩ := HY.out.symm
        have HTL : Hid ((tx []).length ≤ 1000) := hid (by simp [tx])
        rw [hXe] at kc
        obtain ⟨c2, w2, hr2, hp2, hb2⟩ := conv_bytes (tx []) wr
        rw [HY.out] at hr2
        obtain ⟨K, HK2⟩ : ∃ K, Hid ((tx []).length = K) := ⟨_, rfl⟩
        rw [HK2.out] at hr2
        have CL : Hid (Calls Tryz.prog 59 #[u3, .slice (some ⟨wr.heap.size, 0, none⟩) K c2] w2 fun e w' => ∃ v', e = .returned v' ∧ Wst B w1 w' v' (pktL ((l.take i).map tx) ++ pkt (tx []))) := hid (by
          have := appendLine2 (HS.out.below hb2) (by have := HSL.out; omega) (some ⟨wr.heap.size, 0, none⟩) c2 (tx []) hp2 (fun p hp e => by
            cases hp
            have := (own_lt HS.out.own _ e).2
            exact Nat.lt_irrefl _ this) HTL.out (HDW.out w2 (HS.out.bl.trans (hb2.mono HS.out.le)))
          rw [HK2.out] at this
          exact this)
        obtain ⟨P, HPP⟩ : ∃ P, Hid (wr.heap.size = P) := ⟨_, rfl⟩
        rw [HPP.out] at hr2 CL
        rw [hYe] at hr2
        clear hp2 hb2 hil
        go_wp2_with fail
        refine CL.out.mono ?_
        rintro e w3 ⟨v3, rfl, hs3⟩
        have HS3 : Hid (Wst B w1 w3 v3 (pktL ((l.take (i + 1)).map tx))) := hid (by rw [HTK.out]; exact hs3)
        clear hs3
        go_wp2
        go_roundg (k - (i + 1))
        case measure => omega
        case rel => exact ⟨i + 1, by go_num, by omega, rfl, HS3, HSL2⟩
      · obtain ⟨Y, HY⟩ : ∃ X : ByteArray, Hid (⟨(tx x).toArray⟩ = X) := ⟨_, hid rfl⟩
        have htx : tx x = x ++ [10] := by rw [tx, if_neg hx0]
        have hcat : X ++ ⟨#[10]⟩ = Y := by rw [← HXb.out, ← HY.out, htx]; exact str_app x [10]
        have hqe : (X.toList == []) = false := by rw [← HXb.out]; simp [hx0]
        have hqn : (X.toList != []) = true := by rw [bne, hqe]; rfl
        obtain ⟨q, HQ⟩ : ∃ q, Hid (x.length = q) := ⟨_, rfl⟩
        have hq990 : q ≤ 990 := by rw [← HQ.out]; exact HXL.out
        have hxz : X.size = q := by rw [← HXb.out, txt_len]; exact HQ.out
        have h10 : (⟨#[10]⟩ : ByteArray).size = 1 := rfl
        have HTL : Hid ((tx x).length ≤ 1000) := hid (by rw [htx, List.length_append]; have := HXL.out; simp; omega)
        obtain ⟨c2, w2, hr2, hp2, hb2⟩ := conv_bytes (tx x) wr
        rw [HY.out] at hr2
        obtain ⟨K, HK2⟩ : ∃ K, Hid ((tx x).length = K) := ⟨_, rfl⟩
        rw [HK2.out] at hr2
        have CL : Hid (Calls Tryz.prog 59 #[u3, .slice (some ⟨wr.heap.size, 0, none⟩) K c2] w2 fun e w' => ∃ v', e = .returned v' ∧ Wst B w1 w' v' (pktL ((l.take i).map tx) ++ pkt (tx x))) := hid (by
          have := appendLine2 (HS.out.below hb2) (by have := HSL.out; omega) (some ⟨wr.heap.size, 0, none⟩) c2 (tx x) hp2 (fun p hp e => by
            cases hp
            have := (own_lt HS.out.own _ e).2
            exact Nat.lt_irrefl _ this) HTL.out (HDW.out w2 (HS.out.bl.trans (hb2.mono HS.out.le)))
          rw [HK2.out] at this
          exact this)
        obtain ⟨P, HPP⟩ : ∃ P, Hid (wr.heap.size = P) := ⟨_, rfl⟩
        rw [HPP.out] at hr2 CL
        clear hp2 hb2 hil hx0 htx
        go_wp2_with fail
        refine CL.out.mono ?_
        rintro e w3 ⟨v3, rfl, hs3⟩
        have HS3 : Hid (Wst B w1 w3 v3 (pktL ((l.take (i + 1)).map tx))) := hid (by rw [HTK.out]; exact hs3)
        clear hs3
        go_wp2
        go_roundg (k - (i + 1))
        case measure => omega
        case rel => exact ⟨i + 1, by go_num, by omega, rfl, HS3, HSL2⟩
    · have hlti : ¬ (i : Int) < (k : Int) := by omega
      have HF : Hid (Wst B w1 wr u3 (pktL (l.map tx))) := hid (by
        have := HS.out
        rw [List.take_of_length_le (by rw [HK.out]; omega)] at this
        exact this)
      have hWB : w.heap.size ≤ B := by rw [← HBB.out]; exact HB1.out.size
      go_wp2
      go_ret
      have hbw : Below w.heap.size w wr := HB1.out.trans (HF.out.bl.mono hWB)
      exact ⟨_, rfl, base_mono HF.out.own hWB, hbw, hbw.size⟩
end Go.Proofs.YtijeogdnjeamaaaGreatDoor
namespace Go.Proofs.YtijeogdnjeamaaaGreatDoor.Hx
open Go.RowKit
set_option linter.unusedVariables false
theorem Tryz.info5 : (Tryz.prog.info? 5).map (fun i => (i.zero, i.size, i.bytes)) = some (some (.int .u8 0), 1, 1) := by kernel_rfl
theorem Tryz.info68 : (Tryz.prog.info? 68).map (·.size) = some 20 := by kernel_rfl
theorem Tryz.info67 : (Tryz.prog.info? 67).map (·.size) = some 20 := by kernel_rfl
theorem info_parts {o : Option TypeInfo} {z : Value} {a b : Nat} (h : o.map (fun i => (i.zero, i.size, i.bytes)) = some (some z, a, b)) : ∃ i, o = some i ∧ i.zero = some z ∧ i.size = a ∧ i.bytes = b := by
  cases o with
  | none => simp at h
  | some i => simp at h; exact ⟨i, rfl, h.1, h.2.1, h.2.2⟩
def row (zs : List Int) : List Value := zs.map (Value.int .u8)
theorem row_len (zs : List Int) : (row zs).length = zs.length := by simp [row]
theorem row_at (zs : List Int) (i : Nat) (h : i < zs.length) : (row zs)[i]? = some (.int .u8 (zs.getD i 0)) := by simp [row, h]
theorem row_one (zs : List Int) : ∀ v ∈ row zs, v.oneCell' = true := by
  intro v hv; simp only [row, List.mem_map] at hv; obtain ⟨c, _, rfl⟩ := hv; rfl
theorem row_set (zs : List Int) (n : Nat) (c : Int) : (row zs).toArray.setIfInBounds n (.int .u8 c) = (row (zs.set n c)).toArray := by
  simp [row, List.map_set]
theorem row_cell {w : World} {g : Nat} {zs : List Int} {t : TypeId} {fr : Nat × Nat} (h : w.heap[g]? = some (.cells (row zs).toArray t fr)) (i : Nat) (hi : i < zs.length) : w.cell? ⟨g, i, none⟩ = some (.int .u8 (zs.getD i 0)) := by
  rw [cell_of_row w g i _ t fr h]; simpa using row_at zs i hi
theorem range_row {w : World} {g : Nat} {cs : List Value} {t : TypeId} {fr : Nat × Nat} (h : w.heap[g]? = some (.cells cs.toArray t fr)) : w.rangeAt g 0 cs := fun j v hv => by
  rw [Nat.zero_add, cell_of_row w g j _ t fr h]; simpa using hv
theorem there_row {w : World} {g n : Nat} {zs : List Int} {t : TypeId} (h : w.heap[g]? = some (.cells (row zs).toArray t (0, 0))) (hn : zs.length = n) : w.there g 0 n := fun j hj => by
  rw [Nat.zero_add]
  exact ⟨by rw [row_cell h j (by omega)]; rfl, frozen_of_row w g j _ t h⟩
def dig (n : Int) : Int := if n < 10 then 48 + n else 87 + n
def hexOf (zs : List Int) : List Int := zs.flatMap fun x => [dig (x / 16), dig (x % 16)]
theorem hexOf_snoc (l : List Int) (x : Int) : hexOf (l ++ [x]) = hexOf l ++ [dig (x / 16), dig (x % 16)] := by simp [hexOf]
theorem hexOf_len (l : List Int) : (hexOf l).length = 2 * l.length := by
  induction l with
  | nil => rfl
  | cons a l ih => simp [hexOf] at ih ⊢; omega
theorem take_snoc (zs : List Int) (k : Nat) (h : k < zs.length) : zs.take (k + 1) = zs.take k ++ [zs.getD k 0] := by
  rw [List.take_succ_eq_append_getElem h]; simp [h]
theorem index_row {P : Program} (t e : TypeId) (n : Nat) (cs : Array Value) (k : IntKind) (i : Nat) (v : Value) (w : World) (h : P.underlying t = some (.array n e)) (he : (P.info? e).map (·.size) = some 1) (d : TypeDesc) (hu : P.underlying e = some d) (hd : d.isRow = false) (hi : i < n) (hv : cs[i]? = some v) :
    (Instr.index t (.agg cs) (.int k i)).run P w = .ok v w := by
  cases hq : P.info? e with
  | none => simp [hq] at he
  | some inf =>
    have hs : inf.size = 1 := by simpa [hq] using he
    have hagg : (isAgg e).run P w = .ok false w := by
      unfold isAgg
      rw [Sem.run_bind, run_underlying hu w]
      cases d <;> simp_all
    simp [Instr.index, asIntOf, run_underlying h, hi, part, sizeOf, typeInfo, hq, hs, hagg, hv]
theorem Tryz.size5 : (Tryz.prog.info? 5).map (·.size) = some 1 := by kernel_rfl
theorem index_digs (v : Int) (w : World) (h0 : 0 ≤ v) (h1 : v < 16) : (Instr.index 9 (.string { data := #[48, 49, 50, 51, 52, 53, 54, 55, 56, 57, 97, 98, 99, 100, 101, 102] }) (.int .u8 v)).run Tryz.prog w = .ok (.int .u8 (dig v)) w := by
  obtain ⟨n, rfl⟩ := Int.eq_ofNat_of_zero_le h0
  have hn : n < 16 := by omega
  match n, hn with
  | 0, _ => show _ = _; kernel_rfl
  | 1, _ => show _ = _; kernel_rfl
  | 2, _ => show _ = _; kernel_rfl
  | 3, _ => show _ = _; kernel_rfl
  | 4, _ => show _ = _; kernel_rfl
  | 5, _ => show _ = _; kernel_rfl
  | 6, _ => show _ = _; kernel_rfl
  | 7, _ => show _ = _; kernel_rfl
  | 8, _ => show _ = _; kernel_rfl
  | 9, _ => show _ = _; kernel_rfl
  | 10, _ => show _ = _; kernel_rfl
  | 11, _ => show _ = _; kernel_rfl
  | 12, _ => show _ = _; kernel_rfl
  | 13, _ => show _ = _; kernel_rfl
  | 14, _ => show _ = _; kernel_rfl
  | 15, _ => show _ = _; kernel_rfl
theorem and15 (x : Int) (h0 : 0 ≤ x) (h1 : x < 256) : bits .and .u8 x 15 = x % 16 := by
  obtain ⟨n, rfl⟩ := Int.eq_ofNat_of_zero_le h0
  have : ∀ n : Nat, n < 256 → bits .and .u8 (n : Int) 15 = (n : Int) % 16 := by decide +kernel
  exact this n (by omega)
theorem grownBy_allocD (w : World) (o : Obj) (row : Option Nat) : w.grownBy (w.alloc o).drew row := let h := World.grownBy_alloc w o row; ⟨h.os, h.tape, h.output, h.size, h.block⟩
theorem own_lt {w : World} {B : Nat} {e : TypeId} {s : Nat} {v : Value} {n : Nat} {xs : List Value} (h : w.ownsRow B e s v n xs) (k : Nat) (hk : v.ownBlock = some k) : B ≤ k ∧ k < w.heap.size := h.lt k hk
theorem below_step {B : Nat} {w0 w wx w3 : World} {r : Option Nat} (h : Below B w0 w) (hB : B ≤ w0.heap.size) (hx : w.grownBy wx none) (hg : wx.grownBy w3 r) (hr : ∀ k, r = some k → B ≤ k) : Below B w0 w3 :=
  (h.grown hx (Nat.le_trans hB h.size) (fun k h => by cases h)).grown hg (Nat.le_trans (Nat.le_trans hB h.size) hx.size) hr
set_option maxRecDepth 20000 in
set_option maxHeartbeats 1000000 in
theorem hex_prog (zs : List Int) (w : World) (hl : zs.length = 20) (hz : ∀ n ∈ zs, 0 ≤ n ∧ n < 256) :
    Calls Tryz.prog 30 #[.agg (row zs).toArray] w fun e w' => e = .returned (.string (strOfNums (hexOf zs))) ∧ Below w.heap.size w w' := by
  obtain ⟨i5, hi, hz0, hz1, hz2⟩ := info_parts Tryz.info5
  obtain ⟨arr, HA⟩ : ∃ arr, Hid (arr = row zs) := ⟨_, rfl⟩
  rw [← HA.out]
  have hsz : arr.toArray.size = 20 := by rw [HA.out, List.size_toArray, row_len]; exact hl
  have HB0 : Hid (Below w.heap.size w (w.alloc (.cells arr.toArray 68))) := (Below.refl _ w).alloc (Nat.le_refl _) _
  have HC0 : Hid ((w.alloc (.cells arr.toArray 68)).rangeAt w.heap.size 0 arr) := range_row (heap_alloc_new w _)
  go_enter Tryz.func30, Tryz.ntmps30
  go_wp2_with (at_make; refine wpList_make_own _ rfl _ _ 25 rfl w.heap.size 5 i5 (.int .u8 0) 1 Tryz.underlying25 hi hz0 hz1 _ _ _ 40 rfl rfl ?c1 ?c2 ?c3 ?c4 ?_)
  case c1 => rfl
  case c2 => rw [hz2]; omega
  case c3 => unfold maxLen; omega
  case c4 => simp
  · intro w1 hown hgrow
    have HC1 : w1.rangeAt w.heap.size 0 arr := fun j v hj => (World.cell?_of_block (a := ⟨w.heap.size, 0 + j, none⟩) (hgrow.block _ (by simp) (by simp))).trans (HC0.out j v hj)
    have HB1 : Hid (Below w.heap.size w w1) := HB0.out.grown hgrow (by simp) (fun k h => by cases h)
    clear HB0 hgrow HC0
    have hi23 : (Tryz.prog.info? 68).map (·.size) = some arr.length := by rw [Tryz.info68, ← hsz]; simp
    go_wp2_with (refine wpList_load_mid rfl 68 _ rfl w.heap.size 0 rfl arr _ HC1 Tryz.underlying68 rfl hi23 ?_)
    clear HC1
    go_loopg [3, 8] 20 (fun k s i wr => ∃ j g cp : Nat, j ≤ 20 ∧ k = 20 - j ∧ i = .int .i64 j ∧ s = .slice (some ⟨g, 0, none⟩) (2 * j) cp ∧ wr.ownsRow w.heap.size 5 1 (.slice (some ⟨g, 0, none⟩) (2 * j) cp) (2 * j) ((hexOf (zs.take j)).map (Value.int .u8)) ∧ Hid (Below w.heap.size w wr))
    case atStart => exact ⟨0, _, _, by omega, rfl, rfl, rfl, by simpa [hexOf] using hown, HB1⟩
    case round =>
      clear hown HB1
      obtain ⟨j, g, cp, hj, hk, rfl, rfl, hown, HB⟩ := hrel
      by_cases hlt : j < 20
      · obtain ⟨x, HX⟩ : ∃ x, Hid (x = zs.getD j 0) := ⟨_, rfl⟩
        have hg : arr.toArray[j]? = some (.int .u8 x) := by rw [HA.out, HX.out]; simpa using row_at zs j (by omega)
        have hx := hz x (by rw [HX.out, List.getD_eq_getElem?_getD, List.getElem?_eq_getElem (by omega)]; exact List.getElem_mem _)
        have hix : ∀ w1 : World, (Instr.index 68 (.agg arr.toArray) (.int .i64 j)).run Tryz.prog w1 = .ok (.int .u8 x) w1 := fun w1 => index_row 68 5 20 _ _ j _ w1 Tryz.underlying68 Tryz.size5 _ Tryz.underlying5 rfl hlt hg
        obtain ⟨p, HP⟩ : ∃ p, Hid (p = x / 16) := ⟨_, rfl⟩
        obtain ⟨q, HQ⟩ : ∃ q, Hid (q = x % 16) := ⟨_, rfl⟩
        have hp : x / 16 = p := HP.out.symm
        have hq : bits .and .u8 x 15 = q := by rw [HQ.out]; exact and15 x hx.1 hx.2
        have hdp : ∀ w1 : World, (Instr.index 9 (.string { data := #[48, 49, 50, 51, 52, 53, 54, 55, 56, 57, 97, 98, 99, 100, 101, 102] }) (.int .u8 p)).run Tryz.prog w1 = .ok (.int .u8 (dig p)) w1 := fun w1 => index_digs p w1 (by omega) (by omega)
        have hdq : ∀ w1 : World, (Instr.index 9 (.string { data := #[48, 49, 50, 51, 52, 53, 54, 55, 56, 57, 97, 98, 99, 100, 101, 102] }) (.int .u8 q)).run Tryz.prog w1 = .ok (.int .u8 (dig q)) w1 := fun w1 => index_digs q w1 (by rw [HQ.out]; omega) (by rw [HQ.out]; omega)
        obtain ⟨dp, HDP⟩ : ∃ d, Hid (d = dig p) := ⟨_, rfl⟩
        obtain ⟨dq, HDQ⟩ : ∃ d, Hid (d = dig q) := ⟨_, rfl⟩
        rw [← HDP.out] at hdp
        rw [← HDQ.out] at hdq
        go_wp2
        go_region_law ((refine step_append_lies _ (by rfl) _ _ _ (by rfl) w.heap.size 5 i5 (.int .u8 0) 1 1 Tryz.underlying25 hi hz0 hz1 hz2 rfl (by omega) (.slice (some ⟨g, 0, none⟩) (2 * j) cp) (2 * j) ((hexOf (zs.take j)).map (Value.int .u8)) (by rfl) (by exact hown.alloc _) ⟨wr.heap.size, 0, none⟩ 2 2 [.int .u8 dp, .int .u8 dq] (by rfl) (by rfl) (by intro j u hj; match j, hj with | 0, hj => simp at hj; subst hj; simp [Addr.add] | 1, hj => simp at hj; subst hj; simp [Addr.add]) (by intro u hu; simp at hu; rcases hu with rfl | rfl <;> rfl) (by omega) (by unfold maxLen; omega) (by omega) (by have := HB.out.size; simp; omega) (wr.heap.size + 1) (by simp) ?_; intro g2 cp2 w3 hown1 hgrow hat hlt))
        all_goals
          have HB2 : Hid (Below w.heap.size w w3) := below_step HB.out (Nat.le_refl _) (grownBy_allocD wr _ none) hgrow (fun k hk => (own_lt hown k hk).1)
          have HO : Hid (w3.ownsRow w.heap.size 5 1 (.slice (some ⟨g2, 0, none⟩) (2 * (j + 1)) cp2) (2 * (j + 1)) ((hexOf (zs.take (j + 1))).map (Value.int .u8))) := by
            show World.ownsRow _ _ _ _ _ _ _
            rw [take_snoc zs j (by omega), hexOf_snoc, List.map_append, ← HX.out, ← HP.out, ← HQ.out, List.map_cons, List.map_cons, List.map_nil, ← HDP.out, ← HDQ.out]
            exact hown1
          clear hown1 hgrow hat hown
          go_wp2
          go_roundg (20 - (j + 1))
          case measure => omega
          case rel => exact ⟨j + 1, g2, cp2, by omega, rfl, by go_num, rfl, HO.out, HB2⟩
      · obtain rfl : j = 20 := by omega
        have hcv : ∀ dst, Tryz.prog.underlying dst = some .string → (convert 25 dst (.slice (some ⟨g, 0, none⟩) 40 cp)).run Tryz.prog wr = .ok (.string (strOfNums (hexOf zs))) wr :=
          run_convert_bytes_arg wr 25 5 Tryz.underlying25 Tryz.underlying5 g 0 40 cp (hexOf zs) (by rw [hexOf_len]; omega) fun i hi => by
            rw [Nat.zero_add, hown.cellAt i (by omega), List.take_of_length_le (by omega), List.getElem?_map, List.getElem?_eq_getElem (by rw [hexOf_len]; omega)]
            simp [show i < (hexOf zs).length by rw [hexOf_len]; omega]
        have hcv9 := hcv 9 Tryz.underlying9
        clear hcv hown
        go_wp2
        go_ret
        exact ⟨rfl, HB.out⟩
end Go.Proofs.YtijeogdnjeamaaaGreatDoor.Hx
namespace Go.Proofs.YtijeogdnjeamaaaGreatDoor.Hx
open Go.RowKit
set_option linter.unusedVariables false
theorem ret_int {k : IntKind} {a b : Int} (h : a = b) : Ending.returned (.int k a) = .returned (.int k b) := by rw [h]
theorem step_call {P : Program} {ops : Array Oper} {o : Oper} {a : Act} {w : World} {K : Act → World → Prop} {Q : Exit → Act → World → Prop} {E : Prop} (hg : o.guard = none) (f : FuncId) (s : Tmp) (t : TypeId) (v r : Value)
    (ho : o.op = .call { callee := .value (.func f), args := #[.tmp s], argTypes := #[t] }) (hx : a.eval (.tmp s) = v) (hent : ∀ (v : Value) (w : World), (callFunc f #[v]).run P w = .ok (.enter f #[v]) w)
    (hc : Calls P f #[v] w fun e w' => e = .returned r ∧ w' = w) (h : K (a.put o.dst r) w) :
    if Region.wanted o (yielded ops a.tmps) = true then Oper.wp P o a w K Q else E := by
  have hw : Region.wanted o (yielded ops a.tmps) = true := by simp [Region.wanted, hg]
  rw [if_pos hw]
  have hx' : a.tmps[s]?.getD undef = v := by simpa [Act.eval] using hx
  unfold Oper.wp
  simp [execOp, ho, resolve, invoke, go_sem]
  rw [hx', hent, Oper.upon_enter]
  refine hc.mono ?_
  rintro e w' ⟨rfl, rfl⟩
  exact h
theorem wrap_u8 (n : Int) (h0 : 0 ≤ n) (h1 : n < 256) : IntKind.u8.wrap n = n := by
  obtain ⟨m, rfl⟩ := Int.eq_ofNat_of_zero_le h0
  have : ∀ m : Nat, m < 256 → IntKind.u8.wrap (m : Int) = m := by decide +kernel
  exact this m (by omega)
theorem below_alloc {w w' : World} {o : Obj} (h : Below (w.heap.size + 1) (w.alloc o) w') : Below w.heap.size w w' :=
  ((Below.refl _ w).alloc (Nat.le_refl _) o).trans (h.mono (Nat.le_succ _))
theorem enter61 (v : Value) (w : World) : (callFunc 61 #[v]).run Tryz.prog w = .ok (.enter 61 #[v]) w := by kernel_rfl
set_option maxHeartbeats 1000000 in
theorem digit_any (n : Int) (w : World) (h0 : 0 ≤ n) (h1 : n < 16) : Calls Tryz.prog 61 #[.int .u8 n] w fun e w' => e = .returned (.int .u8 (dig n)) ∧ w' = w := by
  have hd : dig n = if n < 10 then 48 + n else 87 + n := rfl
  by_cases h : n < 10
  · rw [if_pos h] at hd
    go_enter Tryz.func61, Tryz.ntmps61
    go_wp2
    go_ret
    exact ⟨ret_int (by first | (rw [hd]; done) | (rw [hd]; omega) | go_num), rfl⟩
  · rw [if_neg h] at hd
    go_enter Tryz.func61, Tryz.ntmps61
    go_wp2
    go_ret
    exact ⟨ret_int (by omega), rfl⟩
set_option maxRecDepth 20000 in
set_option maxHeartbeats 1000000 in
theorem hex_ref (zs : List Int) (w : World) (hl : zs.length = 20) (hz : ∀ n ∈ zs, 0 ≤ n ∧ n < 256) :
    Calls Tryz.prog 34 #[.agg (row zs).toArray] w fun e w' => e = .returned (.string (strOfNums (hexOf zs))) ∧ Below w.heap.size w w' := by
  obtain ⟨i5, hi, hz0, hz1, hz2⟩ := info_parts Tryz.info5
  obtain ⟨arr, HA⟩ : ∃ arr, Hid (arr = row zs) := ⟨_, rfl⟩
  rw [← HA.out]
  have hsz : arr.toArray.size = 20 := by rw [HA.out, List.size_toArray, row_len]; exact hl
  have HB0 : Hid (Below w.heap.size w (w.alloc (.cells arr.toArray 67))) := (Below.refl _ w).alloc (Nat.le_refl _) _
  have HC0 : Hid (∀ i, i < 20 → (w.alloc (.cells arr.toArray 67)).cell? ⟨w.heap.size, i, none⟩ = some (.int .u8 (zs.getD i 0))) := fun i hi => row_cell (zs := zs) (t := 67) (fr := (0, 0)) (by rw [HA.out]; exact heap_alloc_new w _) i (by omega)
  go_enter Tryz.func34, Tryz.ntmps34
  go_wp2
  go_loopg [3, 4] 20 (fun k s i wr => ∃ j cp : Nat, ∃ a : Option Addr, j ≤ 20 ∧ k = 20 - j ∧ i = .int .i64 j ∧ s = .slice a (2 * j) cp ∧ wr.ownsRow (w.heap.size + 1) 5 1 (.slice a (2 * j) cp) (2 * j) ((hexOf (zs.take j)).map (Value.int .u8)) ∧ Hid (Below (w.heap.size + 1) (w.alloc (.cells arr.toArray 67)) wr))
  case atStart => exact ⟨0, 0, none, by omega, rfl, rfl, rfl, World.ownsRow_nil _ _ _ _, Below.refl _ _⟩
  case round =>
    obtain ⟨j, cp, a, hj, hk, rfl, rfl, hown, HB⟩ := hrel
    by_cases hlt : j < 20
    · obtain ⟨x, HX⟩ : ∃ x, Hid (x = zs.getD j 0) := ⟨_, rfl⟩
      have hc : wr.cell? ⟨w.heap.size, j, none⟩ = some (.int .u8 x) := by rw [HX.out]; exact (HB.out.cell (p := ⟨w.heap.size, j, none⟩) (by simp)).trans (HC0.out j hlt)
      have hx := hz x (by rw [HX.out, List.getD_eq_getElem?_getD, List.getElem?_eq_getElem (by omega)]; exact List.getElem_mem _)
      obtain ⟨p, HP⟩ : ∃ p, Hid (p = x / 16) := ⟨_, rfl⟩
      obtain ⟨q, HQ⟩ : ∃ q, Hid (q = x % 16) := ⟨_, rfl⟩
      have hp0 : x / 16 = p := HP.out.symm
      have hq0 : x % 16 = q := HQ.out.symm
      have hp : IntKind.u8.wrap (x.tdiv 16) = p := by rw [Int.tdiv_eq_ediv_of_nonneg hx.1, hp0]; exact wrap_u8 p (by omega) (by omega)
      have hq : x.tmod 16 = q := by rw [Int.tmod_eq_emod_of_nonneg hx.1, hq0]
      have hdp : ∀ w1, Calls Tryz.prog 61 #[.int .u8 p] w1 fun e w' => e = .returned (.int .u8 (dig p)) ∧ w' = w1 := fun w1 => digit_any p w1 (by omega) (by omega)
      have hdq : ∀ w1, Calls Tryz.prog 61 #[.int .u8 q] w1 fun e w' => e = .returned (.int .u8 (dig q)) ∧ w' = w1 := fun w1 => digit_any q w1 (by omega) (by omega)
      obtain ⟨dp, HDP⟩ : ∃ d, Hid (d = dig p) := ⟨_, rfl⟩
      obtain ⟨dq, HDQ⟩ : ∃ d, Hid (d = dig q) := ⟨_, rfl⟩
      rw [← HDP.out] at hdp
      rw [← HDQ.out] at hdq
      go_wp2
      go_region_law (first
        | (refine step_call (by rfl) 61 13 5 (.int .u8 p) (.int .u8 dp) (by rfl) (by rfl) enter61 (hdp _) ?_)
        | (refine step_call (by rfl) 61 18 5 (.int .u8 q) (.int .u8 dq) (by rfl) (by rfl) enter61 (hdq _) ?_)
        | (refine step_append_lies _ (by rfl) _ _ _ (by rfl) (w.heap.size + 1) 5 i5 (.int .u8 0) 1 1 Tryz.underlying25 hi hz0 hz1 hz2 rfl (by omega) (.slice a (2 * j) cp) (2 * j) ((hexOf (zs.take j)).map (Value.int .u8)) (by rfl) (by exact hown.alloc _) ⟨wr.heap.size, 0, none⟩ 2 2 [.int .u8 dp, .int .u8 dq] (by rfl) (by rfl) (by intro j u hj; match j, hj with | 0, hj => simp at hj; subst hj; simp [Addr.add] | 1, hj => simp at hj; subst hj; simp [Addr.add]) (by intro u hu; simp at hu; rcases hu with rfl | rfl <;> rfl) (by omega) (by unfold maxLen; omega) (by omega) (by have := HB.out.size; simp at this ⊢; omega) (wr.heap.size + 1) (by simp) ?_; intro g2 cp2 w3 hown1 hgrow hat hlt))
      all_goals
        have HB2 : Hid (Below (w.heap.size + 1) (w.alloc (.cells arr.toArray 67)) w3) := below_step HB.out (by simp) (grownBy_allocD wr _ none) hgrow (fun k hk => (own_lt hown k hk).1)
        have HO : Hid (w3.ownsRow (w.heap.size + 1) 5 1 (.slice (some ⟨g2, 0, none⟩) (2 * (j + 1)) cp2) (2 * (j + 1)) ((hexOf (zs.take (j + 1))).map (Value.int .u8))) := by
          show World.ownsRow _ _ _ _ _ _ _
          rw [take_snoc zs j (by omega), hexOf_snoc, List.map_append, ← HX.out, ← HP.out, ← HQ.out, List.map_cons, List.map_cons, List.map_nil, ← HDP.out, ← HDQ.out]
          exact hown1
        clear hown1 hgrow hat hown
        go_wp2
        go_roundg (20 - (j + 1))
        case measure => omega
        case rel => exact ⟨j + 1, cp2, _, by omega, rfl, by go_num, rfl, HO.out, HB2⟩
    · obtain rfl : j = 20 := by omega
      obtain ⟨g, cp, hcg⟩ : ∃ g cp', Value.slice a 40 cp = .slice (some ⟨g, 0, none⟩) 40 cp' := by
        obtain ⟨g, cp', h1, -, -⟩ := hown.form (by omega)
        exact ⟨g, cp', h1⟩
      simp only [Value.slice.injEq, true_and] at hcg
      obtain ⟨rfl, rfl⟩ := hcg
      have hcv : ∀ dst, Tryz.prog.underlying dst = some .string → (convert 25 dst (.slice (some ⟨g, 0, none⟩) 40 cp)).run Tryz.prog wr = .ok (.string (strOfNums (hexOf zs))) wr :=
        run_convert_bytes_arg wr 25 5 Tryz.underlying25 Tryz.underlying5 g 0 40 cp (hexOf zs) (by rw [hexOf_len]; omega) fun i hi => by
          rw [Nat.zero_add, hown.cellAt i (by omega), List.take_of_length_le (by omega), List.getElem?_map, List.getElem?_eq_getElem (by rw [hexOf_len]; omega)]
          simp [show i < (hexOf zs).length by rw [hexOf_len]; omega]
      have hcv9 := hcv 9 Tryz.underlying9
      clear hcv hown
      go_wp2
      go_ret
      exact ⟨rfl, below_alloc HB.out⟩
end Go.Proofs.YtijeogdnjeamaaaGreatDoor.Hx
namespace Go.Proofs.YtijeogdnjeamaaaGreatDoor.Hx
open Go.RowKit
set_option linter.unusedVariables false
def hv (c : Int) : Int := if 48 ≤ c ∧ c ≤ 57 then c - 48 else if 97 ≤ c ∧ c ≤ 102 then c - 87 else -1
def sgn (s : ByteArray) (k : Nat) : Int := (s.data.toList.getD k 0).toNat
def zeros : List Int := List.replicate 20 0
def idAt (s : ByteArray) : Nat → List Int
  | 0 => zeros
  | k + 1 => (idAt s k).set (k / 2) (((idAt s k).getD (k / 2) 0 * 16 + hv (sgn s k)) % 256)
theorem idAt_len (s : ByteArray) : ∀ k, (idAt s k).length = 20
  | 0 => rfl
  | k + 1 => by rw [idAt, List.length_set, idAt_len s k]
theorem sgn_bd (s : ByteArray) (k : Nat) : 0 ≤ sgn s k ∧ sgn s k < 256 := by
  unfold sgn
  have := (s.data.toList.getD k 0).toNat_lt
  omega
theorem idAt_bd (s : ByteArray) : ∀ k, ∀ n ∈ idAt s k, 0 ≤ n ∧ n < 256
  | 0 => by intro n hn; simp [idAt, zeros] at hn; omega
  | k + 1 => by
    intro n hn
    rcases List.mem_or_eq_of_mem_set hn with h | h
    · exact idAt_bd s k n h
    · omega
def good (s : ByteArray) : Prop := ∀ k, k < 40 → 0 ≤ hv (sgn s k)
theorem firstIdx_digs (c : Int) (h0 : 0 ≤ c) (h1 : c < 256) : firstIdx { data := #[48, 49, 50, 51, 52, 53, 54, 55, 56, 57, 97, 98, 99, 100, 101, 102] } c.toNat.toUInt8 = hv c := by
  obtain ⟨n, rfl⟩ := Int.eq_ofNat_of_zero_le h0
  have : ∀ n : Nat, n < 256 → firstIdx { data := #[48, 49, 50, 51, 52, 53, 54, 55, 56, 57, 97, 98, 99, 100, 101, 102] } ((n : Int).toNat.toUInt8) = hv n := by decide +kernel
  exact this n (by omega)
set_option maxHeartbeats 1000000 in
theorem indexByte_in (c : Int) (w : World) (h0 : 0 ≤ c) (h1 : c < 256) :
    Calls Tryz.prog 135 #[.string { data := #[48, 49, 50, 51, 52, 53, 54, 55, 56, 57, 97, 98, 99, 100, 101, 102] }, .int .u8 c] w fun e w' => e = .returned (.int .i64 (hv c)) ∧ w' = w := by
  have h17 := @run_callFunc_extern Tryz.prog 154 _ Extern.BytealgIndexByte.indexByte Tryz.func154 (by kernel_rfl) (by kernel_rfl) (by kernel_rfl) (by kernel_rfl)
  have hr := run_indexByte_string (P := Tryz.prog) { data := #[48, 49, 50, 51, 52, 53, 54, 55, 56, 57, 97, 98, 99, 100, 101, 102] } c
  rw [firstIdx_digs c h0 h1] at hr
  go_enter Tryz.func135, Tryz.ntmps135
  go_wp2
  go_ret
  exact ⟨rfl, rfl⟩
theorem indexByte_any (c : Int) (w : World) (h0 : 0 ≤ c) (h1 : c < 256) :
    Calls Tryz.prog 131 #[.string { data := #[48, 49, 50, 51, 52, 53, 54, 55, 56, 57, 97, 98, 99, 100, 101, 102] }, .int .u8 c] w fun e w' => e = .returned (.int .i64 (hv c)) ∧ w' = w := by
  have HF := hid (indexByte_in c w h0 h1)
  go_enter Tryz.func131, Tryz.ntmps131
  go_wp2_with fail
  refine HF.out.mono ?_
  rintro e w1 ⟨rfl, hw⟩
  rw [hw]
  go_wp2
  go_ret
  exact ⟨rfl, rfl⟩
theorem results_mid2 {P : Program} {fn : Func} {p q : Tmp} {ty : TypeId} {t2 : TypeId} (h : fn.results = #[.cell p ty, .tmp q]) (tmps : Array Value) (w : World) (g : Nat) (cs : List Value) (d : TypeDesc) (v : Value)
    (hp : tmps.getD p undef = .pointer (some ⟨g, 0, none⟩)) (hq : tmps.getD q undef = v) (hc : w.rangeAt g 0 cs) (hu : P.underlying ty = some d) (hd : d.isRow = true) (hi : (P.info? ty).map (·.size) = some cs.length) :
    (results fn tmps).run P w = .ok (.tuple #[.agg cs.toArray, v]) w := by
  have hp' : tmps[p]?.getD undef = .pointer (some ⟨g, 0, none⟩) := by simpa using hp
  have hq' : tmps[q]?.getD undef = v := by simpa using hq
  simp [results, h, hp', hq', asAddr, run_loadVar_mid w g 0 ty cs d hc hu hd hi]
end Go.Proofs.YtijeogdnjeamaaaGreatDoor.Hx
namespace Go.Proofs.YtijeogdnjeamaaaGreatDoor.Hx
open Go.RowKit
set_option linter.unusedVariables false
theorem hv_neg (c : Int) (h : ¬ 0 ≤ hv c) : hv c = -1 := by
  unfold hv at h ⊢
  by_cases a : 48 ≤ c ∧ c ≤ 57
  · rw [if_pos a] at h; omega
  · rw [if_neg a] at h ⊢
    by_cases b : 97 ≤ c ∧ c ≤ 102
    · rw [if_pos b] at h; omega
    · rw [if_neg b]
theorem index_sgn (s : ByteArray) (j : Nat) (w : World) (h : j < s.size) : (Instr.index 9 (.string s) (.int .i64 j)).run Tryz.prog w = .ok (.int .u8 (sgn s j)) w := by
  rw [run_index_string (P := Tryz.prog) w 9 s .i64 j Tryz.underlying9, dif_pos ⟨by omega, by omega⟩]
  unfold sgn
  have hj : j < s.data.toList.length := by simpa using h
  simp only [Int.toNat_natCast, List.getD_eq_getElem?_getD, List.getElem?_eq_getElem hj, Option.getD_some]
  rfl
theorem below_setCells {B g : Nat} (hB : B ≤ g) : ∀ (vs : List Value) (o : Nat) (w0 w : World), Below B w0 w → Below B w0 (w.setCells g o vs)
  | [], _, _, _, h => h
  | v :: r, o, w0, _, h => below_setCells hB r (o + 1) w0 _ (h.setCell (p := ⟨g, o, none⟩) hB v)
theorem shl_or (a n : Int) (ha : 0 ≤ a ∧ a < 256) (hn : 0 ≤ n ∧ n < 16) : bits .or .u8 (a * 16 % 256) n = (a * 16 + n) % 256 := by
  obtain ⟨x, rfl⟩ := Int.eq_ofNat_of_zero_le ha.1
  obtain ⟨y, rfl⟩ := Int.eq_ofNat_of_zero_le hn.1
  have : ∀ y : Nat, y < 16 → ∀ x : Nat, x < 256 → bits .or .u8 ((x : Int) * 16 % 256) (y : Int) = ((x : Int) * 16 + y) % 256 := by decide +kernel
  exact this y (by omega) x (by omega)
set_option maxRecDepth 20000 in
set_option maxHeartbeats 1000000 in
theorem parse_prog (s : ByteArray) (w : World) (hl : s.size ≤ 300000) :
    Calls Tryz.prog 123 #[.string s] w fun e w' => Below w.heap.size w w' ∧ ((s.size = 40 ∧ good s → e = .returned (.tuple #[.agg (row (idAt s 40)).toArray, .nilIface])) ∧ (¬ (s.size = 40 ∧ good s) → e = .returned (.tuple #[.agg (row zeros).toArray, .iface 37 (.int .i64 12)]))) := by
  have hi2 : ∀ l : List Int, l.length = 20 → (Tryz.prog.info? 68).map (·.size) = some (row l).length := fun l h => by rw [row_len, h]; exact Tryz.info68
  obtain ⟨zr, HZ⟩ : ∃ zr, Hid (zr = row zeros) := ⟨_, rfl⟩
  by_cases h40 : s.size = 40
  · go_enter Tryz.func123, Tryz.ntmps123
    go_wp2
    go_loopg [14] 40 (fun k i wr => ∃ j : Nat, j ≤ 40 ∧ k = 40 - j ∧ i = .int .i64 j ∧ (∀ k, k < j → 0 ≤ hv (sgn s k)) ∧ Hid (wr.heap[w.heap.size + 1]? = some (.cells (row (idAt s j)).toArray 68 (0, 0))) ∧ Hid (wr.heap[w.heap.size]? = some (.cells (row zeros).toArray 68 (0, 0))) ∧ Hid (Below w.heap.size w wr))
    case atStart => exact ⟨0, by omega, rfl, rfl, fun k hk => by omega, heap_alloc2_new w _ _, heap_alloc2_old w _ _, ((Below.refl _ _).alloc (Nat.le_refl _) _).alloc (by simp) _⟩
    case round =>
      obtain ⟨j, hj, hk, rfl, hgd, H1, H0, HB⟩ := hrel
      by_cases hlt : j < 40
      · obtain ⟨c, HC⟩ : ∃ c, Hid (c = sgn s j) := ⟨_, rfl⟩
        have hix : ∀ w1 : World, (Instr.index 9 (.string s) (.int .i64 j)).run Tryz.prog w1 = .ok (.int .u8 c) w1 := fun w1 => by rw [HC.out]; exact index_sgn s j w1 (by omega)
        have hcb : 0 ≤ c ∧ c < 256 := by rw [HC.out]; exact sgn_bd s j
        by_cases hn : 0 ≤ hv c
        · obtain ⟨n, HN⟩ : ∃ n, Hid (n = hv c) := ⟨_, rfl⟩
          have hnb : 0 ≤ n ∧ n < 16 := by rw [HN.out]; refine ⟨hn, ?_⟩; unfold hv; split; omega; split <;> omega
          obtain ⟨x, HX⟩ : ∃ x, Hid (x = (idAt s j).getD (j / 2) 0) := ⟨_, rfl⟩
          have hcell : wr.cell? ⟨w.heap.size + 1, j / 2, none⟩ = some (.int .u8 x) := by rw [HX.out]; exact row_cell H1.out (j / 2) (by rw [idAt_len]; omega)
          have hfz := frozen_of_row wr (w.heap.size + 1) (j / 2) _ 68 H1.out
          have hxb : 0 ≤ x ∧ x < 256 := idAt_bd s j x (by rw [HX.out, List.getD_eq_getElem?_getD, List.getElem?_eq_getElem (by rw [idAt_len]; omega)]; exact List.getElem_mem _)
          obtain ⟨y, HY⟩ : ∃ y, Hid (y = (x * 16 + n) % 256) := ⟨_, rfl⟩
          have hor := shl_or x n hxb hnb
          rw [← HY.out] at hor
          have hwn : IntKind.u8.wrap n = n := wrap_u8 n hnb.1 (by omega)
          obtain ⟨m, HM⟩ : ∃ m, Hid (m = j / 2) := ⟨_, rfl⟩
          have hm : j / 2 = m := HM.out.symm
          have hm2 : m < 20 := by omega
          rw [hm] at hcell hfz
          go_wp2_with (go_at_call 131; refine (indexByte_any c _ hcb.1 hcb.2).mono ?_; rintro e w1 ⟨rfl, rfl⟩; rw [← HN.out])
          go_roundg (40 - (j + 1))
          case measure => omega
          case rel =>
            refine ⟨j + 1, by omega, rfl, by go_num, ?_, ?_, ?_, HB.out.setCell (by simp) _⟩
            · intro k hk
              rcases Nat.lt_or_ge k j with h | h
              · exact hgd k h
              · obtain rfl : k = j := by omega
                rw [← HC.out]; exact hn
            · show _ = _
              rw [heap_setCell_same w1 _ _ _ _ _ H1.out, idAt, ← row_set, ← HX.out, ← HC.out, ← HN.out, ← HY.out, hm, ← hor]
            · show _ = _
              rw [heap_setCell_other w1 _ _ _ (by simp)]; exact H0.out
        · have hneg : hv c = -1 := hv_neg c hn
          go_wp2_with (first | (go_at_call 131; refine (indexByte_any c _ hcb.1 hcb.2).mono ?_; rintro e w1 ⟨rfl, rfl⟩; rw [hneg]) | refine wpList_store_mid rfl 68 _ _ rfl w.heap.size 0 (row zeros).toArray rfl rfl ?t1 ?t2 ?t3 ?_)
          case t1 => exact there_row H0.out rfl
          case t2 => exact hi2 _ rfl
          case t3 => exact all_oneCell_toArray (row_one _)
          · refine bodyPost_ret (v := .tuple #[.agg (row zeros).toArray, .iface 37 (.int .i64 12)]) (results_mid2 (t2 := 27) Tryz.results123 _ _ w.heap.size _ _ _ rfl rfl (World.rangeAt_setCells_same _ w.heap.size 0 _ ?_) Tryz.underlying68 rfl (hi2 _ rfl)) rfl ⟨below_setCells (Nat.le_refl _) _ _ _ _ HB.out, fun h => absurd (h.2 j hlt) (by rw [← HC.out, hneg]; omega), fun _ => rfl⟩
            exact there_row H0.out rfl
      · obtain rfl : j = 40 := by omega
        go_wp2_with (first | refine wpList_load_mid rfl 68 _ rfl (w.heap.size + 1) 0 rfl (row (idAt s 40)) _ (range_row H1.out) Tryz.underlying68 rfl (hi2 _ (idAt_len s 40)) ?_ | refine wpList_store_mid rfl 68 _ _ rfl w.heap.size 0 (row (idAt s 40)).toArray rfl rfl ?t1 ?t2 ?t3 ?_)
        case t1 => rw [show (row (idAt s 40)).toArray.size = 20 from by rw [List.size_toArray, row_len, idAt_len]]; exact there_row H0.out rfl
        case t2 => rw [List.size_toArray]; exact hi2 _ (idAt_len s 40)
        case t3 => exact all_oneCell_toArray (row_one _)
        · refine bodyPost_ret (v := .tuple #[.agg (row (idAt s 40)).toArray, .nilIface]) (results_mid2 (t2 := 27) Tryz.results123 _ _ w.heap.size _ _ _ rfl rfl (World.rangeAt_setCells_same wr w.heap.size 0 _ ?_) Tryz.underlying68 rfl (hi2 _ (idAt_len s 40))) rfl ⟨below_setCells (Nat.le_refl _) _ _ _ _ HB.out, fun _ => rfl, fun h => absurd ⟨h40, hgd⟩ h⟩
          rw [row_len, idAt_len]; exact there_row H0.out rfl
  · have hnq : (s.size : Int) ≠ 40 := by omega
    have H0 : Hid ((w.alloc (.cells (row zeros).toArray 68)).heap[w.heap.size]? = some (.cells (row zeros).toArray 68 (0, 0))) := heap_alloc_new w _
    have HB : Hid (Below w.heap.size w (w.alloc (.cells (row zeros).toArray 68))) := (Below.refl _ _).alloc (Nat.le_refl _) _
    go_enter Tryz.func123, Tryz.ntmps123
    go_wp2_with (refine wpList_store_mid rfl 68 _ _ rfl w.heap.size 0 (row zeros).toArray rfl rfl ?t1 ?t2 ?t3 ?_)
    case t1 => exact there_row H0.out rfl
    case t2 => exact hi2 _ rfl
    case t3 => exact all_oneCell_toArray (row_one _)
    · refine bodyPost_ret (v := .tuple #[.agg (row zeros).toArray, .iface 37 (.int .i64 12)]) (results_mid2 (t2 := 27) Tryz.results123 _ _ w.heap.size _ _ _ rfl rfl (World.rangeAt_setCells_same _ w.heap.size 0 _ ?_) Tryz.underlying68 rfl (hi2 _ rfl)) rfl ⟨below_setCells (Nat.le_refl _) _ _ _ _ HB.out, fun h => absurd h.1 h40, fun _ => rfl⟩
      exact there_row H0.out rfl
end Go.Proofs.YtijeogdnjeamaaaGreatDoor.Hx
