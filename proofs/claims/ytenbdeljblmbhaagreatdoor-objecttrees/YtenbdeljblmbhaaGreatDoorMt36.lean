import Derived.Test.YtenbdeljblmbhaaGreatDoorMt35
import Derived.Test.YtenbdeljblmbhaaGreatDoorMt32
import Derived.Test.YtenbdeljblmbhaaGreatDoorMt20
import Derived.Test.YtenbdeljblmbhaaGreatDoorMt05
import Derived.ChangeKeysEq
import Derived.Laws.StructEq
import Derived.Test.YtenbdeljblmbhaaGreatDoorMt12
/- The document's side of chapter 3: 'Decode'. -/
namespace Go.Proofs.YtenbdeljblmbhaaGreatDoor
open Go.RowKit
set_option linter.unusedVariables false
set_option linter.unusedSimpArgs false
/-- What the document's 'Decode' gives. -/
def PostF (zs : List Int) (w : World) (e : Ending) (w' : World) : Prop :=
  Below w.heap.size w w' ∧ ((∃ (k : Nat) (D : List UInt8) (g : Option Addr) (c : Nat), Gd (Lib.bytesOf zs) k D ∧ e = .returned (.tuple #[.agg #[.int .i64 k, .slice g D.length c], .bool true]) ∧ Sl w' g c (nums D)) ∨
    ((∀ k D, ¬ Gd (Lib.bytesOf zs) k D) ∧ e = .returned (.tuple #[.agg #[.int .i64 0, .slice none 0 0], .bool false])))
theorem Tryz.results41 : Tryz.f41.results = #[.cell 2 39, .tmp 3] := by kernel_rfl
theorem bytesOf_zero {zs : List Int} (hz : IsB zs) {q : Nat} (hq : q < zs.length) : zs.getD q 0 = 0 ↔ (Lib.bytesOf zs).getD q 0 = 0 := by
  have hb := hz (zs.getD q 0) (by rw [List.getD_eq_getElem?_getD, List.getElem?_eq_getElem hq]; exact List.getElem_mem _)
  have : (Lib.bytesOf zs).getD q 0 = UInt8.ofNat (zs.getD q 0).toNat := by
    simp [Lib.bytesOf, List.getD_eq_getElem?_getD, List.getElem?_eq_getElem hq]
  rw [this]
  constructor
  · intro h; rw [h]; rfl
  · intro h
    have h2 := congrArg UInt8.toNat h
    rw [UInt8.toNat_ofNat'] at h2
    have h3 : (0 : UInt8).toNat = 0 := rfl
    rw [h3] at h2
    omega
/-- No 0 ahead of i; a 0 there. -/
structure Zr (zs : List Int) (i : Nat) : Prop where
  lt : i < zs.length
  at_ : zs.getD i 0 = 0
  no : ∀ q, q < i → zs.getD q 0 ≠ 0
theorem zr_split (zs : List Int) (hz : IsB zs) : (∀ q, q < zs.length → zs.getD q 0 ≠ 0) ∧ (0 : UInt8) ∉ Lib.bytesOf zs ∨ ∃ i, Zr zs i ∧ Cu (Lib.bytesOf zs) i (Lib.bytesOf (zs.drop (i + 1))) := by
  have hlB : (Lib.bytesOf zs).length = zs.length := Lib.bytesOf_length zs
  rcases index_one 0 (Lib.bytesOf zs) with ⟨h1, h2⟩ | ⟨a', d', h1, h2, h3⟩
  · refine .inl ⟨fun q hq h => ?_, h1⟩
    rw [bytesOf_zero hz hq, List.getD_eq_getElem?_getD, List.getElem?_eq_getElem (by omega)] at h
    simp only [Option.getD_some] at h
    exact h1 (h ▸ List.getElem_mem _)
  · have hd' : d' = Lib.bytesOf (zs.drop (a'.length + 1)) := by rw [Lib.bytesOf_drop, h1]; simp
    have hln : a'.length + 1 ≤ zs.length := by rw [← hlB, h1]; simp
    refine .inr ⟨a'.length, ⟨by omega, ?_, fun q hq h => ?_⟩, ?_⟩
    · rw [bytesOf_zero hz (by omega), h1]; simp
    · rw [bytesOf_zero hz (by omega), h1, List.getD_eq_getElem?_getD, List.getElem?_append_left hq, List.getElem?_eq_getElem hq] at h
      simp only [Option.getD_some] at h
      exact h2 (h ▸ List.getElem_mem _)
    · rw [← hd', h1]
      exact cu_some h2
/-- The same bytes: the object is that. -/
theorem gd_enc {zs dz : List Int} {k : Nat} (hz : IsB zs) (hdz : IsB dz) (h1 : 1 ≤ k) (h4 : k ≤ 4) (he : errE k dz.length = 0) (h : encZ k dz = zs) : Gd (Lib.bytesOf zs) k (Lib.bytesOf dz) := by
  have hl := (fits_ok k _ he).2
  refine ⟨h1, h4, by rw [Lib.bytesOf_length]; exact hl, ?_⟩
  rw [← h, encZ, Lib.bytesOf_length]
  have : Lib.bytesOf (nums (hd k dz.length) ++ dz) = Lib.bytesOf (nums (hd k dz.length)) ++ Lib.bytesOf dz := by simp [Lib.bytesOf]
  rw [this, bytesOf_nums]
theorem enc_gd {zs dz : List Int} {k : Nat} (hz : IsB zs) (hdz : IsB dz) (h : Gd (Lib.bytesOf zs) k (Lib.bytesOf dz)) : errE k dz.length = 0 ∧ encZ k dz = zs := by
  have hl := h.len
  rw [Lib.bytesOf_length] at hl
  refine ⟨errE_0 k _ (kN_ne k h.lo h.hi) (by omega), ?_⟩
  have e := congrArg nums h.eq
  rw [nums_bytesOf _ hz, nums_app, nums_bytesOf _ hdz, Lib.bytesOf_length] at e
  rw [e]; rfl
theorem Tryz.size39o : (Tryz.prog.info? 39).map (·.size) = some 2 := by kernel_rfl
theorem zero39 (w : World) : (zeroValue 39).run Tryz.prog w = .ok (.agg #[.int .i64 0, .slice none 0 0]) w := by kernel_rfl
set_option maxRecDepth 20000 in
set_option maxHeartbeats 4000000 in
theorem refDecode_none (a : Option Addr) (cap : Nat) (zs : List Int) (w : World) (hl : zs.length ≤ 300000) (hz : IsB zs) (hS : Sl w a cap zs) (hno : ∀ q, q < zs.length → zs.getD q 0 ≠ 0) (h0 : (0 : UInt8) ∉ Lib.bytesOf zs) :
    Calls Tryz.prog 41 #[.slice a zs.length cap] w (PostF zs w) := by
  obtain ⟨n, HN⟩ : ∃ n, Hid (zs.length = n) := ⟨_, rfl⟩
  obtain ⟨G, HG⟩ : ∃ G, Hid (w.heap.size = G) := ⟨_, rfl⟩
  obtain ⟨w1, HW1⟩ : ∃ w1, Hid (w.alloc (.cells #[.int .i64 0, .slice none 0 0] 39) = w1) := ⟨_, rfl⟩
  have HB1 : Hid (Below G w w1) := hid (by rw [← HW1.out, ← HG.out]; exact (Below.refl _ w).alloc (Nat.le_refl _) _)
  have hs1 : w1.heap.size = G + 1 := by rw [← HW1.out, ← HG.out]; simp
  have HR1 : Hid (w1.heap[G]? = some (.cells #[.int .i64 0, .slice none 0 0] 39 (0, 0))) := hid (by rw [← HW1.out, ← HG.out]; exact heap_alloc_new w _)
  have HS1 : Hid (Sl w1 a cap zs) := hS.below (by rw [HG.out]; exact HB1.out)
  have hln : n ≤ 300000 := by rw [← HN.out]; exact hl
  have HNO : Hid (∀ q, q < n → zs.getD q 0 ≠ 0) := fun q hq => hno q (by rw [HN.out]; exact hq)
  rw [HN.out]
  clear hS
  go_enter Tryz.func41, Tryz.ntmps41
  go_wp2_with fail
  rw [HG.out, HW1.out]
  go_loopg [4] 5 (fun g v wr => g = 5 ∧ v = .int .i64 1 ∧ wr = w1)
  case atStart => exact ⟨rfl, rfl, rfl⟩
  case round =>
    obtain ⟨rfl, rfl, hwr⟩ := hrel
    have hwr' := hwr.symm
    subst hwr'
    go_wp2_with fail
    go_loopg [5] n (fun g v wr => ∃ q : Nat, q ≤ n ∧ v = .int .i64 q ∧ g = n - q ∧ wr = w1)
    case atStart => exact ⟨0, Nat.zero_le _, rfl, rfl, rfl⟩
    case round =>
      obtain ⟨q, hq, rfl, hgq, hwr⟩ := hrel
      have hwr' := hwr.symm
      subst hwr'
      by_cases hlt : q < n
      · have hlti : (q : Int) < n := by omega
        obtain ⟨b, off, rfl, _, hat⟩ := HS1.out.at_ (by rw [HN.out]; omega)
        have hc := hat q (by rw [HN.out]; exact hlt)
        obtain ⟨x, HX⟩ : ∃ x, Hid (zs.getD q 0 = x) := ⟨_, rfl⟩
        rw [HX.out] at hc
        have hx : ¬ x = 0 := by rw [← HX.out]; exact HNO.out q hlt
        have hxb : (x == 0) = false := by simpa using hx
        go_wp2
        go_roundg (n - (q + 1))
        case measure => omega
        case rel => exact ⟨q + 1, by omega, by go_num, rfl, rfl⟩
      · have hlti : ¬ (q : Int) < n := by omega
        have hlei : (n : Int) ≤ q := by omega
        have hg0 : w1.cell? ⟨G, 0, none⟩ = some (.int .i64 0) := by rw [cell_of_row w1 G 0 _ _ _ HR1.out]; rfl
        have hg1 : w1.cell? ⟨G, 1, none⟩ = some (.slice none 0 0) := by rw [cell_of_row w1 G 1 _ _ _ HR1.out]; rfl
        have hf0 : w1.frozen? ⟨G, 0, none⟩ = false := frozen_of_row w1 G 0 _ _ HR1.out
        have hf1 : w1.frozen? ⟨G, 1, none⟩ = false := frozen_of_row w1 G 1 _ _ HR1.out
        go_wp2
        exact bodyPost_ret (v := .tuple #[.agg #[.int .i64 0, .slice none 0 0], .bool false]) (results_mid2 Tryz.results41 _ _ G [.int .i64 0, .slice none 0 0] _ rfl (range_set2 hg0 hg1) Tryz.underlying39 rfl Tryz.size39o) rfl ⟨by rw [HG.out]; exact (HB1.out.setCell (Nat.le_refl _) _).setCell (Nat.le_refl _) _, .inr ⟨fun k D hg => absurd hg.has h0, rfl⟩⟩
set_option maxRecDepth 20000 in
set_option maxHeartbeats 4000000 in
theorem refDecode_some (a : Option Addr) (cap : Nat) (zs : List Int) (w : World) (hl : zs.length ≤ 300000) (hz : IsB zs) (hS : Sl w a cap zs) (i : Nat) (hi : Zr zs i) (hcu : Cu (Lib.bytesOf zs) i (Lib.bytesOf (zs.drop (i + 1)))) :
    Calls Tryz.prog 41 #[.slice a zs.length cap] w (PostF zs w) := by
  obtain ⟨n, HN⟩ : ∃ n, Hid (zs.length = n) := ⟨_, rfl⟩
  obtain ⟨G, HG⟩ : ∃ G, Hid (w.heap.size = G) := ⟨_, rfl⟩
  obtain ⟨w1, HW1⟩ : ∃ w1, Hid (w.alloc (.cells #[.int .i64 0, .slice none 0 0] 39) = w1) := ⟨_, rfl⟩
  have HB1 : Hid (Below G w w1) := hid (by rw [← HW1.out, ← HG.out]; exact (Below.refl _ w).alloc (Nat.le_refl _) _)
  have hs1 : w1.heap.size = G + 1 := by rw [← HW1.out, ← HG.out]; simp
  have HR1 : Hid (w1.heap[G]? = some (.cells #[.int .i64 0, .slice none 0 0] 39 (0, 0))) := hid (by rw [← HW1.out, ← HG.out]; exact heap_alloc_new w _)
  have hln : n ≤ 300000 := by rw [← HN.out]; exact hl
  have hin : i < n := by rw [← HN.out]; exact hi.lt
  obtain ⟨dz, HDZ⟩ : ∃ dz, Hid (dz = zs.drop (i + 1)) := ⟨_, rfl⟩
  rw [← HDZ.out] at hcu
  have hdb : IsB dz := by rw [HDZ.out]; exact fun x hx => hz x (List.mem_of_mem_drop hx)
  obtain ⟨dn, HDN⟩ : ∃ dn, Hid (dz.length = dn) := ⟨_, rfl⟩
  have hdn : n - (i + 1) = dn := by rw [← HDN.out, HDZ.out, List.length_drop, HN.out]
  obtain ⟨b, off, rfl, hbl, hat⟩ := hS.at_ (by have := HN.out; omega)
  obtain ⟨da, HDA⟩ : ∃ da : Option Addr, Hid (da = if cap = i + 1 then some ⟨b, off, none⟩ else some ⟨b, off + (i + 1), none⟩) := ⟨_, rfl⟩
  obtain ⟨dc, HDC⟩ : ∃ dc, Hid (cap - (i + 1) = dc) := ⟨_, rfl⟩
  have hsl : ∀ W, (Instr.slice 23 (.slice (some ⟨b, off, none⟩) n cap) (some (.int .i64 ((i : Int) + 1))) none none).run Tryz.prog W = .ok (.slice da dn dc) W := fun W => by
    have hc := hS.capl
    rw [HN.out] at hc
    have := slice22 b off n cap (i + 1) W (by omega) hc
    rw [← HDA.out, HDC.out, hdn] at this
    rw [show ((i : Int) + 1) = ((i + 1 : Nat) : Int) by omega]
    exact this
  have HSD : Hid (∀ W, Below G w W → Sl W da dc dz) := fun W hW => by
    have := (hS.below (w' := W) (by rw [HG.out]; exact hW)).from (i + 1) (by have := HN.out; omega) (by have := HN.out; omega)
    rw [← HDZ.out, HDC.out] at this
    rw [HDA.out]
    simpa [addr_add] using this
  have HSS : Hid (∀ W, Below G w W → Sl W (some ⟨b, off, none⟩) cap zs) := fun W hW => hS.below (by rw [HG.out]; exact hW)
  have HNO : Hid (∀ q, q < i → zs.getD q 0 ≠ 0) := hi.no
  have HAT : Hid (zs.getD i 0 = 0) := hi.at_
  have HCU : Hid _ := hcu
  have HEN : Hid (∀ (k : Nat) W, Below G w W → Calls Tryz.prog 14 #[.agg #[.int .i64 k, .slice da dn dc]] W (PostR k dz W)) := fun k W hW => by
    rw [← HDN.out]
    exact refEncode_any k da dc dz W (by have := HDN.out; omega) (HSD.out W hW)
  rw [HN.out]
  clear hcu hi hat
  have hS' : Hid _ := hS
  clear hS
  go_enter Tryz.func41, Tryz.ntmps41
  go_wp2_with fail
  rw [HG.out, HW1.out]
  go_loopg [4] 4 (fun g v wr => ∃ j : Nat, 1 ≤ j ∧ j ≤ 5 ∧ v = .int .i64 j ∧ g = 5 - j ∧ Hid (Below G w wr) ∧ G < wr.heap.size ∧ Hid (wr.heap[G]? = some (.cells #[.int .i64 0, .slice none 0 0] 39 (0, 0))) ∧ Hid (∀ k D, Gd (Lib.bytesOf zs) k D → j ≤ k))
  case atStart => exact ⟨1, by omega, by omega, rfl, rfl, HB1, by omega, HR1, fun k D hg => hg.lo⟩
  case round =>
    obtain ⟨j, hj1, hj5, rfl, hgj, HB, hGs, HR, HJ⟩ := hrel
    by_cases hj : j ≤ 4
    · have hji : (j : Int) ≤ 4 := by omega
      go_wp2_with fail
      go_loopg [5] n (fun g v wr' => ∃ q : Nat, q ≤ i ∧ v = .int .i64 q ∧ g = n - q ∧ wr' = wr)
      case atStart => exact ⟨0, Nat.zero_le _, rfl, rfl, rfl⟩
      case round =>
        obtain ⟨q, hq, rfl, hgq, hwr⟩ := hrel
        have hwr' := hwr.symm
        subst hwr'
        obtain ⟨b', off', e1, _, hat⟩ := (HSS.out wr HB.out).at_ (by have := HN.out; omega)
        cases e1
        have hqn : q < n := by omega
        have hlti : (q : Int) < n := by omega
        have hc := hat q (by rw [HN.out]; exact hqn)
        obtain ⟨x, HX⟩ : ∃ x, Hid (zs.getD q 0 = x) := ⟨_, rfl⟩
        rw [HX.out] at hc
        by_cases hlt : q < i
        · have hx : ¬ x = 0 := by rw [← HX.out]; exact HNO.out q hlt
          have hxb : (x == 0) = false := by simpa using hx
          go_wp2
          go_roundg (n - (q + 1))
          case measure => omega
          case rel => exact ⟨q + 1, by omega, by go_num, rfl, rfl⟩
        · obtain rfl : q = i := by omega
          have hx : x = 0 := by rw [← HX.out]; exact HAT.out
          subst hx
          have hlei : ¬ (n : Int) ≤ q := by omega
          obtain ⟨H, HH⟩ : ∃ H, Hid (wr.heap.size = H) := ⟨_, rfl⟩
          obtain ⟨w1', HW1'⟩ : ∃ w1', Hid (wr.alloc (.cells #[.int .i64 j, .slice da dn dc] 39) = w1') := ⟨_, rfl⟩
          have hs1' : w1'.heap.size = H + 1 := by rw [← HW1'.out, ← HH.out]; simp
          have hc0 : w1'.cell? ⟨H, 0, none⟩ = some (.int .i64 j) := by rw [← HW1'.out, ← HH.out]; simp
          have hc1 : w1'.cell? ⟨H, 1, none⟩ = some (.slice da dn dc) := by rw [← HW1'.out, ← HH.out]; simp
          have hGH : G < H := by rw [← HH.out]; exact hGs
          have hb1' : Below H wr w1' := by rw [← HW1'.out, ← HH.out]; exact (Below.refl _ wr).alloc (Nat.le_refl _) _
          have HB1' : Hid (Below G w w1') := HB.out.trans (hb1'.mono (by omega))
          have HR1' : Hid (w1'.heap[G]? = some (.cells #[.int .i64 0, .slice none 0 0] 39 (0, 0))) := (hb1'.block _ hGH).trans HR.out
          have HE1 : Hid (Calls Tryz.prog 14 #[.agg #[.int .i64 j, .slice da dn dc]] w1' (PostR j dz w1')) := HEN.out j w1' HB1'.out
          go_wp2_with fail
          rw [HW1'.out, HH.out]
          refine HE1.out.mono ?_
          rintro ev w2 ⟨hb2, ⟨he, rfl⟩ | ⟨he, g, c2, rfl, h1, h2, h3, h4⟩⟩
          · have hb2s := hb2.size
            rw [hs1'] at hb2 hb2s
            have HB2 : Hid (Below G w w2) := HB1'.out.trans (hb2.mono (by omega))
            have HR2 : Hid (w2.heap[G]? = some (.cells #[.int .i64 0, .slice none 0 0] 39 (0, 0))) := (hb2.block _ (by omega)).trans HR1'.out
            have HJ2 : Hid (∀ k D, Gd (Lib.bytesOf zs) k D → j + 1 ≤ k) := fun k D hg => by
              have h := HJ.out k D hg
              rcases Nat.lt_or_ge j k with h' | h'
              · omega
              · obtain rfl : k = j := by omega
                obtain ⟨_, rfl⟩ := HCU.out.gd k D hg
                exact absurd (enc_gd hz hdb hg).1 he
            obtain ⟨er, HER⟩ : ∃ er, Hid (er = errE j dz.length) := ⟨_, rfl⟩
            have her : ¬ er = 0 := by rw [HER.out]; exact he
            have her2 : (er == 0) = false := by simpa using her
            rw [← HER.out]
            clear hb2 he hc0 hc1 hc
            go_wp2
            go_roundg (5 - (j + 1))
            case measure => omega
            case rel => exact ⟨j + 1, by omega, by omega, by go_num, rfl, HB2, by omega, HR2, HJ2⟩
          · have hb2s := hb2.size
            rw [hs1'] at hb2 hb2s
            have HB2 : Hid (Below G w w2) := HB1'.out.trans (hb2.mono (by omega))
            have HR2 : Hid (w2.heap[G]? = some (.cells #[.int .i64 0, .slice none 0 0] 39 (0, 0))) := (hb2.block _ (by omega)).trans HR1'.out
            have hcv1 := conv_str (l := encZ j dz) (a := some ⟨g, 0, none⟩) (cap := c2) (w := w2) ⟨h4, fun _ => ⟨g, 0, rfl, h2, h3⟩, fun e => by cases e⟩
            have hcv2 := conv_str (HSS.out w2 HB2.out)
            obtain ⟨L, HL⟩ : ∃ L, Hid ((encZ j dz).length = L) := ⟨_, rfl⟩
            rw [HL.out] at hcv1 ⊢
            rw [HN.out] at hcv2
            have hd0 : w2.cell? ⟨H, 0, none⟩ = some (.int .i64 j) := (hb2.cell (p := ⟨H, 0, none⟩) (show H < H + 1 by omega)).trans hc0
            have hd1 : w2.cell? ⟨H, 1, none⟩ = some (.slice da dn dc) := (hb2.cell (p := ⟨H, 1, none⟩) (show H < H + 1 by omega)).trans hc1
            obtain ⟨S2, HS2⟩ : ∃ S : ByteArray, Hid (S = ⟨(Lib.bytesOf zs).toArray⟩) := ⟨_, rfl⟩
            by_cases heq : encZ j dz = zs
            · rw [heq, ← HS2.out] at hcv1
              rw [← HS2.out] at hcv2
              have hgd := gd_enc hz hdb hj1 hj he heq
              have HGD : Hid _ := hgd
              have hg0 : w2.cell? ⟨G, 0, none⟩ = some (.int .i64 0) := by rw [cell_of_row w2 G 0 _ _ _ HR2.out]; rfl
              have hg1 : w2.cell? ⟨G, 1, none⟩ = some (.slice none 0 0) := by rw [cell_of_row w2 G 1 _ _ _ HR2.out]; rfl
              have hf0 : w2.frozen? ⟨G, 0, none⟩ = false := frozen_of_row w2 G 0 _ _ HR2.out
              have hf1 : w2.frozen? ⟨G, 1, none⟩ = false := frozen_of_row w2 G 1 _ _ HR2.out
              clear hb2 he hc0 hc1 hc heq hgd h1 h2 h3 h4
              go_wp2
              have hbE : Below G w ((w2.setCell ⟨G, 0, none⟩ (.int .i64 j)).setCell ⟨G, 1, none⟩ (.slice da dn dc)) := (HB2.out.setCell (Nat.le_refl _) _).setCell (Nat.le_refl _) _
              refine bodyPost_ret (v := .tuple #[.agg #[.int .i64 j, .slice da dn dc], .bool true]) (results_mid2 Tryz.results41 _ _ G [.int .i64 j, .slice da dn dc] _ rfl (range_set2 hg0 hg1) Tryz.underlying39 rfl Tryz.size39o) rfl ⟨by rw [HG.out]; exact hbE, .inl ⟨j, Lib.bytesOf dz, da, dc, HGD.out, ?_, ?_⟩⟩
              · rw [Lib.bytesOf_length, HDN.out]
              · rw [nums_bytesOf _ hdb]
                exact HSD.out _ hbE
            · obtain ⟨S1, HS1⟩ : ∃ S : ByteArray, Hid (S = ⟨(Lib.bytesOf (encZ j dz)).toArray⟩) := ⟨_, rfl⟩
              rw [← HS1.out] at hcv1
              rw [← HS2.out] at hcv2
              have hne : (S1.toList == S2.toList) = false := by
                rw [HS1.out, HS2.out, Lib.toList_data, Lib.toList_data]
                refine beq_eq_false_iff_ne.2 fun e => heq ?_
                have e' := congrArg nums (show Lib.bytesOf (encZ j dz) = Lib.bytesOf zs from e)
                rwa [nums_bytesOf _ (encZ_isB _ _ hdb), nums_bytesOf _ hz] at e'
              have HJ2 : Hid (∀ k D, Gd (Lib.bytesOf zs) k D → j + 1 ≤ k) := fun k D hg => by
                have h := HJ.out k D hg
                rcases Nat.lt_or_ge j k with h' | h'
                · omega
                · obtain rfl : k = j := by omega
                  obtain ⟨_, rfl⟩ := HCU.out.gd k D hg
                  exact absurd (enc_gd hz hdb hg).2 heq
              clear hb2 he hc0 hc1 hc heq hd0 hd1 h1 h2 h3 h4
              go_wp2
              go_roundg (5 - (j + 1))
              case measure => omega
              case rel => exact ⟨j + 1, by omega, by omega, by go_num, rfl, HB2, by omega, HR2, HJ2⟩
    · have hji : ¬ (j : Int) ≤ 4 := by omega
      have hg0 : wr.cell? ⟨G, 0, none⟩ = some (.int .i64 0) := by rw [cell_of_row wr G 0 _ _ _ HR.out]; rfl
      have hg1 : wr.cell? ⟨G, 1, none⟩ = some (.slice none 0 0) := by rw [cell_of_row wr G 1 _ _ _ HR.out]; rfl
      have hf0 : wr.frozen? ⟨G, 0, none⟩ = false := frozen_of_row wr G 0 _ _ HR.out
      have hf1 : wr.frozen? ⟨G, 1, none⟩ = false := frozen_of_row wr G 1 _ _ HR.out
      go_wp2
      exact bodyPost_ret (v := .tuple #[.agg #[.int .i64 0, .slice none 0 0], .bool false]) (results_mid2 Tryz.results41 _ _ G [.int .i64 0, .slice none 0 0] _ rfl (range_set2 hg0 hg1) Tryz.underlying39 rfl Tryz.size39o) rfl ⟨by rw [HG.out]; exact (HB.out.setCell (Nat.le_refl _) _).setCell (Nat.le_refl _) _, .inr ⟨fun k D hg => by have := HJ.out k D hg; have := hg.hi; omega, rfl⟩⟩
theorem refDecode_any (a : Option Addr) (cap : Nat) (zs : List Int) (w : World) (hl : zs.length ≤ 300000) (hz : IsB zs) (hS : Sl w a cap zs) : Calls Tryz.prog 41 #[.slice a zs.length cap] w (PostF zs w) := by
  rcases zr_split zs hz with ⟨h1, h2⟩ | ⟨i, h1, h2⟩
  · exact refDecode_none a cap zs w hl hz hS h1 h2
  · exact refDecode_some a cap zs w hl hz hS i h1 h2
end Go.Proofs.YtenbdeljblmbhaaGreatDoor
/- The law 'DigestSums': its walk. -/
namespace Go.Proofs.YtenbdeljblmbhaaGreatDoor
open Go.RowKit
set_option linter.unusedVariables false

theorem eqItems_same {P : Program} (d : Nat) (e : TypeId) (he : P.plainKey e = true) (hu : P.underlying e = some (.int .u8)) (xs : List Int) : ∀ (is : List Nat) (w : World), (∀ j ∈ is, j < xs.length) → (Op.eqItems (d + 1) e 1 (row .u8 xs).toArray (row .u8 xs).toArray is).run P w = .ok true w
  | [], w, _ => by simp [Op.eqItems]
  | j :: is, w, h => by
    have hj := h j (by simp)
    have hp : (part e (row .u8 xs).toArray j).run P w = .ok (.int .u8 (xs.getD j 0)) w := run_part_plain w he (by simpa using row_at .u8 xs j hj)
    simp only [Op.eqItems, Sem.run_bind, Nat.mul_one, hp, Result.andThen_ok]
    simp [go_sem, hu, eqItems_same d e he hu xs is w (fun k hk => h k (by simp [hk]))]
theorem cells5 : Tryz.prog.cellsOf 5 = 1 := by kernel_rfl
theorem plain5 : Tryz.prog.plainKey 5 = true := by kernel_rfl
theorem same25 (xs : List Int) (h : xs.length = 20) (w : World) : (Op.equalIn 10000 32 (.agg (row .u8 xs).toArray) (.agg (row .u8 xs).toArray)).run Tryz.prog w = .ok true w := by
  obtain ⟨i5, hi, -⟩ := info_parts Tryz.info5
  rw [show (10000 : Nat) = 9999 + 1 from rfl, run_equalIn_array w 9999 _ _ Tryz.underlying32 hi, cells5]
  exact eqItems_same 9998 5 plain5 Tryz.underlying5 xs _ w (fun j hj => by rw [h]; simpa using hj)

theorem grown_drewN (w : World) (n : Nat) (r : Option Nat) : w.grownBy (w.drewN n) r := ⟨rfl, rfl, rfl, Nat.le_refl _, fun _ _ _ => rfl⟩
set_option maxHeartbeats 400000 in
theorem still_keep (a : Option Addr) (cap g : Nat) (zs : List Int) (w : World) (hl : zs.length ≤ 300000) (hz : IsB zs) (hr : Room w g zs) (hc : 0 < zs.length → ∃ b off, a = some ⟨b, off, none⟩ ∧ b < g ∧ At w b off zs) :
    Calls Tryz.prog 12 #[.slice (some ⟨g, 0, none⟩) zs.length (zs.length + 2), .slice a zs.length cap] w fun e w' => e = .returned (.bool true) ∧ w.grownBy w' (some g) := by
  have c71 := hr.c71
  have c72 := hr.c72
  go_enter Tryz.func12, Tryz.ntmps12
  go_wp2_with (go_at_call 16; refine (same_any _ _ _ _ zs _ (by omega) (fun _ => ⟨g, 0, rfl, fun i hi => by rw [Nat.zero_add]; exact hr.cell i hi⟩) (fun h => by obtain ⟨b, off, h1, h2, h3⟩ := hc h; exact ⟨b, off, h1, h3⟩)).mono ?_; rintro e w1 ⟨rfl, nq, rfl⟩)
  go_loopw [8] (fun i wr => ∃ k : Nat, k ≤ zs.length + 2 ∧ i = .int .i64 k ∧ Own wr g (zs.length + 2) ∧ (∀ i, wr.frozen? ⟨g, i, none⟩ = false) ∧ w.grownBy wr (some g)) (fun i _ => zs.length + 2 - (intOf i).toNat)
  case atStart => exact ⟨0, Nat.zero_le _, rfl, hr.own hz, hr.fz, grown_drewN _ _ _⟩
  case round =>
    obtain ⟨k, hk, rfl, hown, hfz, hbel⟩ := hrel
    clear c71 c72
    by_cases hlt : k < zs.length + 2
    · obtain ⟨v, hv1, hv2, hcell⟩ := hown k hlt
      obtain ⟨v', hx, hv3, hv4⟩ := xor85 v hv1 hv2
      have hf := hfz k
      go_wp2
      go_roundw
      case rel => exact ⟨k + 1, by omega, by go_num, hown.set k v' hv3 hv4, fun i => by rw [World.frozen?_setCell]; exact hfz i, grown_setCell _ hbel⟩
      case measure => simp [intOf]; omega
    · go_wp2
      go_ret
      exact ⟨rfl, hbel⟩
end Go.Proofs.YtenbdeljblmbhaaGreatDoor
/- The law's 'decodes'. -/
namespace Go.Proofs.YtenbdeljblmbhaaGreatDoor
open Go.RowKit
set_option linter.unusedVariables false
set_option linter.unusedSimpArgs false
theorem Room.below {w w' : World} {g : Nat} {zs : List Int} (h : Room w g zs) (hb : Below w.heap.size w w') : Room w' g zs where
  lt := Nat.lt_of_lt_of_le h.lt hb.size
  cell := fun j hj => (hb.cell (p := ⟨g, j, none⟩) h.lt).trans (h.cell j hj)
  c71 := (hb.cell (p := ⟨g, zs.length, none⟩) h.lt).trans h.c71
  c72 := (hb.cell (p := ⟨g, zs.length + 1, none⟩) h.lt).trans h.c72
  fz := fun j => (World.frozen?_of_block (a := ⟨g, j, none⟩) (hb.block g h.lt)).trans (h.fz j)
theorem Room.sl {w : World} {g : Nat} {zs : List Int} (h : Room w g zs) : Sl w (some ⟨g, 0, none⟩) (zs.length + 2) zs :=
  ⟨by omega, fun _ => ⟨g, 0, rfl, h.lt, fun i hi => by rw [Nat.zero_add]; exact h.cell i hi⟩, fun e => by cases e⟩
theorem Sl.grown {w w' : World} {a : Option Addr} {cap : Nat} {l : List Int} {r : Option Nat} (h : Sl w a cap l) (hg : w.grownBy w' r) (hne : ∀ b off, a = some ⟨b, off, none⟩ → some b ≠ r) : Sl w' a cap l :=
  ⟨h.capl, fun h0 => by
    obtain ⟨b, off, e1, e2, e3⟩ := h.at_ h0
    exact ⟨b, off, e1, Nat.lt_of_lt_of_le e2 hg.size, fun i hi => (World.cell?_of_block (a := ⟨b, off + i, none⟩) (hg.block b e2 (hne b off e1))).trans (e3 i hi)⟩, h.nil⟩
/-- What the world holds that errors and numbers want. -/
structure Lw (w : World) : Prop where
  tab : Tab w
  mx : Mx w
  hand : w.cell? ⟨0, 0, none⟩ = some (.iface 188 (.agg #[.pointer (some ⟨9, 28, none⟩)]))
theorem cell_lt0 {w : World} {a : Addr} {v : Value} (h : w.cell? a = some v) : a.block < w.heap.size := by
  rcases Nat.lt_or_ge a.block w.heap.size with h' | h'
  · exact h'
  · simp [World.cell?, Array.getElem?_eq_none h'] at h
theorem Lw.below {w w' : World} (h : Lw w) (hb : Below w.heap.size w w') : Lw w' :=
  ⟨h.tab.below hb, h.mx.below hb, (hb.cell (p := ⟨0, 0, none⟩) (cell_lt0 h.hand)).trans h.hand⟩
theorem owns_sl {w : World} {B : Nat} {a : Option Addr} {c : Nat} {l : List Int} (h : w.ownsRow B 5 1 (.slice a l.length c) l.length (l.map (Value.int .u8))) : Sl w a c l := by
  have h' := h
  obtain ⟨_, ⟨hv, h0⟩ | ⟨g2, cap2, cur, hv, _, hlt, hnc, _⟩⟩ := h'
  · simp only [Value.slice.injEq] at hv
    exact ⟨by omega, fun h1 => by omega, fun _ => hv.2.2⟩
  · simp only [Value.slice.injEq] at hv
    obtain ⟨rfl, _, rfl⟩ := hv
    refine ⟨hnc, fun h0 => ⟨g2, 0, rfl, ?_, fun i hi => ?_⟩, fun e => by cases e⟩
    · exact (own_lt h g2 rfl).2
    · rw [Nat.zero_add, h.cellAt i (by simpa using hi), List.getElem?_map, List.getElem?_eq_getElem hi]
      simp [List.getD_eq_getElem?_getD, List.getElem?_eq_getElem hi]
set_option maxRecDepth 20000 in
set_option maxHeartbeats 4000000 in
theorem decodes_any (a : Option Addr) (cap : Nat) (zs : List Int) (w : World) (hl : zs.length ≤ 300000) (hz : IsB zs) (hS : Sl w a cap zs) (hw : Lw w) :
    Calls Tryz.prog 17 #[.slice a zs.length cap] w fun e w' => e = .returned (.bool true) ∧ Below w.heap.size w w' := by
  obtain ⟨n, HN⟩ : ∃ n, Hid (zs.length = n) := ⟨_, rfl⟩
  obtain ⟨G, HG⟩ : ∃ G, Hid (w.heap.size = G) := ⟨_, rfl⟩
  have HLW : Hid (∀ W, Below G w W → Lw W) := fun W hW => hw.below (by rw [HG.out]; exact hW)
  have HSS : Hid (∀ W, Below G w W → Sl W a cap zs) := fun W hW => hS.below (by rw [HG.out]; exact hW)
  have HSB : Hid (0 < zs.length → ∃ b off, a = some ⟨b, off, none⟩ ∧ b < G) := fun h0 => by
    obtain ⟨b, off, e1, e2, _⟩ := hS.at_ h0
    exact ⟨b, off, e1, by rw [← HG.out]; exact e2⟩
  have HR8 : Hid (Calls Tryz.prog 8 #[.slice a n cap] w fun e w' => e = .returned (.slice (some ⟨G, 0, none⟩) n (n + 2)) ∧ Below G w w' ∧ Room w' G zs) := by
    have := roomy_any a cap zs w hl hS.at_
    rw [HN.out, HG.out] at this
    exact this
  have HDE : Hid (∀ W, Below G w W → Room W G zs → Calls Tryz.prog 40 #[.slice (some ⟨G, 0, none⟩) n (n + 2)] W (PostD zs W)) := fun W hW hr => by
    have := decode_any (some ⟨G, 0, none⟩) (zs.length + 2) zs W hl hz hr.sl (HLW.out W hW).tab (HLW.out W hW).mx
    rw [HN.out] at this
    exact this
  have HRD : Hid (∀ W, Below G w W → Calls Tryz.prog 41 #[.slice a n cap] W (PostF zs W)) := fun W hW => by
    have := refDecode_any a cap zs W hl hz (HSS.out W hW)
    rw [HN.out] at this
    exact this
  have HST : Hid (∀ W, Below G w W → Room W G zs → Calls Tryz.prog 12 #[.slice (some ⟨G, 0, none⟩) n (n + 2), .slice a n cap] W fun e w' => e = .returned (.bool true) ∧ W.grownBy w' (some G)) := fun W hW hr => by
    have := still_keep a cap G zs W hl hz hr (fun h0 => by
      obtain ⟨b, off, e1, e2, e3⟩ := (HSS.out W hW).at_ h0
      obtain ⟨b', off', e1', e2'⟩ := HSB.out h0
      rw [e1] at e1'
      cases e1'
      exact ⟨b, off, e1, e2', e3⟩)
    rw [HN.out] at this
    exact this
  have HTE : Hid (∀ W, Below G w W → Calls Tryz.prog 11 #[.iface 35 (.int .i64 24)] W fun e w' => e = .returned (.int .i64 24) ∧ Below W.heap.size W w') := fun W hW => tell_errno 24 W (HLW.out W hW).hand
  rw [HN.out, HG.out]
  clear hS hw
  go_enter Tryz.func17, Tryz.ntmps17
  go_wp2_with fail
  refine HR8.out.mono ?_
  rintro ev w1 ⟨rfl, hb1, hr1⟩
  have HB1 : Hid _ := hb1
  have HR1 : Hid _ := hr1
  have hG1 : G < w1.heap.size := hr1.lt
  clear hb1 hr1
  go_wp2_with fail
  refine (HDE.out w1 HB1.out HR1.out).mono ?_
  rintro ev w2 ⟨hb2, ⟨k, D, ga, gc, hgd, rfl, hown⟩ | ⟨hng, rfl⟩⟩
  · have hb2s := hb2.size
    have hDl : D.length ≤ 100000 := hgd.len
    have HGD : Hid (Gd (Lib.bytesOf zs) k D) := hgd
    obtain ⟨m, HM⟩ : ∃ m, Hid (D.length = m) := ⟨_, rfl⟩
    have HO2 : Hid (Sl w2 ga gc (nums D)) := owns_sl (B := w1.heap.size) (by rw [nums_len]; exact hown)
    have HNE : Hid (∀ b off, ga = some ⟨b, off, none⟩ → some b ≠ some G) := fun b off e e2 => by
      cases e2
      obtain ⟨_, ⟨hv, h0⟩ | ⟨g2, cap2, cur, hv, hle, _⟩⟩ := hown
      · simp only [Value.slice.injEq] at hv
        rw [e] at hv; cases hv.1
      · simp only [Value.slice.injEq] at hv
        rw [e] at hv; cases hv.1; omega
    rw [HM.out]
    clear hown hgd
    obtain ⟨w3, HW3⟩ : ∃ w3, Hid (w2.alloc (.cells #[.int .i64 k, .slice ga m gc] 25) = w3) := ⟨_, rfl⟩
    obtain ⟨H, HH⟩ : ∃ H, Hid (w2.heap.size = H) := ⟨_, rfl⟩
    have hb23 : Below w2.heap.size w2 w3 := by rw [← HW3.out]; exact (Below.refl _ w2).alloc (Nat.le_refl _) _
    have hb3 : Below w1.heap.size w1 w3 := hb2.trans (hb23.mono hb2.size)
    have HO3 : Hid (Sl w3 ga gc (nums D)) := HO2.out.below hb23
    have hs3 : w3.heap.size = H + 1 := by rw [← HW3.out, ← HH.out]; simp
    have hc30 : w3.cell? ⟨H, 0, none⟩ = some (.int .i64 k) := by rw [← HW3.out, ← HH.out]; simp
    have hc31 : w3.cell? ⟨H, 1, none⟩ = some (.slice ga m gc) := by rw [← HW3.out, ← HH.out]; simp
    have hGH : G < H := by rw [← HH.out]; omega
    have HB3 : Hid (Below G w w3) := HB1.out.trans (hb3.mono (by omega))
    have HR3 : Hid (Room w3 G zs) := HR1.out.below hb3
    clear hb2 hb3 hb23
    go_wp2_with fail
    rw [HW3.out, HH.out]
    refine (tell_nil w3).mono ?_
    rintro ev w4 ⟨rfl, hb4⟩
    have hb4s := hb4.size
    have HB4 : Hid (Below G w w4) := HB3.out.trans (hb4.mono (by omega))
    have HR4 : Hid (Room w4 G zs) := HR3.out.below hb4
    have HO4 : Hid (Sl w4 ga gc (nums D)) := HO3.out.below hb4
    have hc40 : w4.cell? ⟨H, 0, none⟩ = some (.int .i64 k) := (hb4.cell (p := ⟨H, 0, none⟩) (show H < _ by omega)).trans hc30
    have hc41 : w4.cell? ⟨H, 1, none⟩ = some (.slice ga m gc) := (hb4.cell (p := ⟨H, 1, none⟩) (show H < _ by omega)).trans hc31
    clear hb4 hc30 hc31
    go_wp2_with fail
    refine (HST.out w4 HB4.out HR4.out).mono ?_
    rintro ev w5 ⟨rfl, hg5⟩
    have hg5s := hg5.size
    have HB5 : Hid (Below G w w5) := HB4.out.grown hg5 (by omega) (fun k hk => by cases hk; exact Nat.le_refl _)
    have HO5 : Hid (Sl w5 ga gc (nums D)) := HO4.out.grown hg5 HNE.out
    have hc50 : w5.cell? ⟨H, 0, none⟩ = some (.int .i64 k) := (World.cell?_of_block (a := ⟨H, 0, none⟩) (hg5.block H (by omega) (by simp; omega))).trans hc40
    have hc51 : w5.cell? ⟨H, 1, none⟩ = some (.slice ga m gc) := (World.cell?_of_block (a := ⟨H, 1, none⟩) (hg5.block H (by omega) (by simp; omega))).trans hc41
    clear hg5 hc40 hc41
    go_wp2_with fail
    refine (HRD.out w5 HB5.out).mono ?_
    rintro ev w6 ⟨hb6, ⟨k', D', ga', gc', hgd', rfl, hown'⟩ | ⟨hng, rfl⟩⟩
    · obtain ⟨rfl, rfl⟩ := HGD.out.one hgd'
      rw [HM.out]
      have hb6s := hb6.size
      obtain ⟨w7, HW7⟩ : ∃ w7, Hid (w6.alloc (.cells #[.int .i64 k, .slice ga' m gc'] 39) = w7) := ⟨_, rfl⟩
      have hb67 : Below w6.heap.size w6 w7 := by rw [← HW7.out]; exact (Below.refl _ w6).alloc (Nat.le_refl _) _
      have hb7 : Below w5.heap.size w5 w7 := hb6.trans (hb67.mono hb6.size)
      have hc70 : w7.cell? ⟨H, 0, none⟩ = some (.int .i64 k) := (hb7.cell (p := ⟨H, 0, none⟩) (show H < _ by omega)).trans hc50
      have hc71 : w7.cell? ⟨H, 1, none⟩ = some (.slice ga m gc) := (hb7.cell (p := ⟨H, 1, none⟩) (show H < _ by omega)).trans hc51
      have HB7 : Hid (Below G w w7) := HB5.out.trans (hb7.mono (by omega))
      have HO7 : Hid (Sl w7 ga gc (nums D)) := HO5.out.below hb7
      have HQ7 : Hid (Sl w7 ga' gc' (nums D)) := hown'.below hb67
      have HSA : Hid (Calls Tryz.prog 16 #[.slice ga m gc, .slice ga' m gc'] w7 fun e w' => e = .returned (.bool true) ∧ ∃ n, w' = w7.drewN n) := hid (by
        have := same_any ga ga' gc gc' (nums D) w7 (by rw [nums_len]; omega) (fun h0 => by obtain ⟨b, off, e1, _, e3⟩ := HO7.out.at_ h0; exact ⟨b, off, e1, e3⟩) (fun h0 => by obtain ⟨b, off, e1, _, e3⟩ := HQ7.out.at_ h0; exact ⟨b, off, e1, e3⟩)
        rw [nums_len, HM.out] at this
        exact this)
      obtain ⟨H7, HH7⟩ : ∃ H7, Hid (w6.heap.size = H7) := ⟨_, rfl⟩
      have hd0 : w7.cell? ⟨H7, 0, none⟩ = some (.int .i64 k) := by rw [← HW7.out, ← HH7.out]; simp
      have hd1 : w7.cell? ⟨H7, 1, none⟩ = some (.slice ga' m gc') := by rw [← HW7.out, ← HH7.out]; simp
      rw [← HW7.out] at hc70 hc71 HSA
      clear hb6 hb7 hb67 hc50 hc51 hown' hgd'
      go_wp2_with fail
      rw [HW7.out] at HSA ⊢
      refine HSA.out.mono ?_
      rintro ev w8 ⟨rfl, q8, rfl⟩
      have HB8 : Hid (Below G w (w7.drewN q8)) := below_drewH HB7.out q8
      rw [HW7.out] at hc70 hc71
      rw [HH7.out]
      go_wp2
      go_ret
      exact ⟨rfl, HB8.out⟩
    · exact absurd HGD.out (hng k D)
  · have hb2s := hb2.size
    obtain ⟨w3, HW3⟩ : ∃ w3, Hid (w2.alloc (.cells #[.int .i64 0, .slice none 0 0] 25) = w3) := ⟨_, rfl⟩
    obtain ⟨H, HH⟩ : ∃ H, Hid (w2.heap.size = H) := ⟨_, rfl⟩
    have hb3 : Below w1.heap.size w1 w3 := by rw [← HW3.out]; exact hb2.alloc hb2.size _
    have hs3 : w3.heap.size = H + 1 := by rw [← HW3.out, ← HH.out]; simp
    have hc30 : w3.cell? ⟨H, 0, none⟩ = some (.int .i64 0) := by rw [← HW3.out, ← HH.out]; simp
    have hc31 : w3.cell? ⟨H, 1, none⟩ = some (.slice none 0 0) := by rw [← HW3.out, ← HH.out]; simp
    have hGH : G < H := by rw [← HH.out]; omega
    have HB3 : Hid (Below G w w3) := HB1.out.trans (hb3.mono (by omega))
    have HR3 : Hid (Room w3 G zs) := HR1.out.below hb3
    clear hb2 hb3
    go_wp2_with fail
    rw [HW3.out, HH.out]
    refine (HTE.out w3 HB3.out).mono ?_
    rintro ev w4 ⟨rfl, hb4⟩
    have hb4s := hb4.size
    have HB4 : Hid (Below G w w4) := HB3.out.trans (hb4.mono (by omega))
    have HR4 : Hid (Room w4 G zs) := HR3.out.below hb4
    have hc40 : w4.cell? ⟨H, 0, none⟩ = some (.int .i64 0) := (hb4.cell (p := ⟨H, 0, none⟩) (show H < _ by omega)).trans hc30
    have hc41 : w4.cell? ⟨H, 1, none⟩ = some (.slice none 0 0) := (hb4.cell (p := ⟨H, 1, none⟩) (show H < _ by omega)).trans hc31
    clear hb4 hc30 hc31
    go_wp2_with fail
    refine (HST.out w4 HB4.out HR4.out).mono ?_
    rintro ev w5 ⟨rfl, hg5⟩
    have hg5s := hg5.size
    have HB5 : Hid (Below G w w5) := HB4.out.grown hg5 (by omega) (fun k hk => by cases hk; exact Nat.le_refl _)
    have hc50 : w5.cell? ⟨H, 0, none⟩ = some (.int .i64 0) := (World.cell?_of_block (a := ⟨H, 0, none⟩) (hg5.block H (by omega) (by simp; omega))).trans hc40
    have hc51 : w5.cell? ⟨H, 1, none⟩ = some (.slice none 0 0) := (World.cell?_of_block (a := ⟨H, 1, none⟩) (hg5.block H (by omega) (by simp; omega))).trans hc41
    clear hg5 hc40 hc41
    go_wp2_with fail
    refine (HRD.out w5 HB5.out).mono ?_
    rintro ev w6 ⟨hb6, ⟨k, D, ga, gc, hgd, rfl, hown⟩ | ⟨_, rfl⟩⟩
    · exact absurd hgd (hng k D)
    · have hb6s := hb6.size
      obtain ⟨w7, HW7⟩ : ∃ w7, Hid (w6.alloc (.cells #[.int .i64 0, .slice none 0 0] 39) = w7) := ⟨_, rfl⟩
      have hb7 : Below w5.heap.size w5 w7 := by rw [← HW7.out]; exact hb6.alloc hb6.size _
      have hc70 : w7.cell? ⟨H, 0, none⟩ = some (.int .i64 0) := (hb7.cell (p := ⟨H, 0, none⟩) (show H < _ by omega)).trans hc50
      have hc71 : w7.cell? ⟨H, 1, none⟩ = some (.slice none 0 0) := (hb7.cell (p := ⟨H, 1, none⟩) (show H < _ by omega)).trans hc51
      have HB7 : Hid (Below G w w7) := HB5.out.trans (hb7.mono (by omega))
      rw [← HW7.out] at hc70 hc71 HB7
      clear hb6 hb7 hc50 hc51
      go_wp2
      go_ret
      exact ⟨rfl, HB7.out⟩
end Go.Proofs.YtenbdeljblmbhaaGreatDoor
