/- The document's side of chapter 3: 'Decode'. -/
import Derived.Test.YtbpdielmdhhdfaaGreatDoorDec
import Derived.Test.YtbpdielmdhhdfaaGreatDoorEncS
namespace Go.Proofs.YtbpdielmdhhdfaaGreatDoor
open Go.RowKit
set_option linter.unusedVariables false
set_option linter.unusedSimpArgs false
/-- What the document's 'Decode' gives. -/
def PostF (zs : List Int) (w : World) (e : Ending) (w' : World) : Prop :=
  Below w.heap.size w w' ∧ ((∃ (k : Nat) (D : List UInt8) (g : Option Addr) (c : Nat), Gd (Lib.bytesOf zs) k D ∧ e = .returned (.tuple #[.agg #[.int .i64 k, .slice g D.length c], .bool true]) ∧ Sl w' g c (nums D)) ∨
    ((∀ k D, ¬ Gd (Lib.bytesOf zs) k D) ∧ e = .returned (.tuple #[.agg #[.int .i64 0, .slice none 0 0], .bool false])))
theorem Tryz.results41 : Tryz.f41.results = #[.cell 2 39, .tmp 3] := by kernel_rfl
theorem bytesOf_zero {zs : List Int} (hz : IsB zs) {q : Nat} (hq : q < zs.length) : zs.getD q 0 = 0 ↔ (Lib.bytesOf zs).getD q 0 = 0 := by
  have hb := hz (zs.getD q 0) (by rw [List.getD_eq_getElem?_getD, List.getElem?_eq_getElem hq]; exact List.getElem_mem _)
  have : (Lib.bytesOf zs).getD q 0 = UInt8.ofNat (zs.getD q 0).toNat := by
    simp [Lib.bytesOf, List.getD_eq_getElem?_getD, List.getElem?_eq_getElem hq]
  rw [this]
  constructor
  · intro h; rw [h]; rfl
  · intro h
    have h2 := congrArg UInt8.toNat h
    rw [UInt8.toNat_ofNat'] at h2
    have h3 : (0 : UInt8).toNat = 0 := rfl
    rw [h3] at h2
    omega
/-- No 0 ahead of i; a 0 there. -/
structure Zr (zs : List Int) (i : Nat) : Prop where
  lt : i < zs.length
  at_ : zs.getD i 0 = 0
  no : ∀ q, q < i → zs.getD q 0 ≠ 0
theorem zr_split (zs : List Int) (hz : IsB zs) : (∀ q, q < zs.length → zs.getD q 0 ≠ 0) ∧ (0 : UInt8) ∉ Lib.bytesOf zs ∨ ∃ i, Zr zs i ∧ Cu (Lib.bytesOf zs) i (Lib.bytesOf (zs.drop (i + 1))) := by
  have hlB : (Lib.bytesOf zs).length = zs.length := Lib.bytesOf_length zs
  rcases index_one 0 (Lib.bytesOf zs) with ⟨h1, h2⟩ | ⟨a', d', h1, h2, h3⟩
  · refine .inl ⟨fun q hq h => ?_, h1⟩
    rw [bytesOf_zero hz hq, List.getD_eq_getElem?_getD, List.getElem?_eq_getElem (by omega)] at h
    simp only [Option.getD_some] at h
    exact h1 (h ▸ List.getElem_mem _)
  · have hd' : d' = Lib.bytesOf (zs.drop (a'.length + 1)) := by rw [Lib.bytesOf_drop, h1]; simp
    have hln : a'.length + 1 ≤ zs.length := by rw [← hlB, h1]; simp
    refine .inr ⟨a'.length, ⟨by omega, ?_, fun q hq h => ?_⟩, ?_⟩
    · rw [bytesOf_zero hz (by omega), h1]; simp
    · rw [bytesOf_zero hz (by omega), h1, List.getD_eq_getElem?_getD, List.getElem?_append_left hq, List.getElem?_eq_getElem hq] at h
      simp only [Option.getD_some] at h
      exact h2 (h ▸ List.getElem_mem _)
    · rw [← hd', h1]
      exact cu_some h2
/-- The same bytes: the object is that. -/
theorem gd_enc {zs dz : List Int} {k : Nat} (hz : IsB zs) (hdz : IsB dz) (h1 : 1 ≤ k) (h4 : k ≤ 4) (he : errE k dz.length = 0) (h : encZ k dz = zs) : Gd (Lib.bytesOf zs) k (Lib.bytesOf dz) := by
  have hl := (fits_ok k _ he).2
  refine ⟨h1, h4, by rw [Lib.bytesOf_length]; exact hl, ?_⟩
  rw [← h, encZ, Lib.bytesOf_length]
  have : Lib.bytesOf (nums (hd k dz.length) ++ dz) = Lib.bytesOf (nums (hd k dz.length)) ++ Lib.bytesOf dz := by simp [Lib.bytesOf]
  rw [this, bytesOf_nums]
theorem enc_gd {zs dz : List Int} {k : Nat} (hz : IsB zs) (hdz : IsB dz) (h : Gd (Lib.bytesOf zs) k (Lib.bytesOf dz)) : errE k dz.length = 0 ∧ encZ k dz = zs := by
  have hl := h.len
  rw [Lib.bytesOf_length] at hl
  refine ⟨errE_0 k _ (kN_ne k h.lo h.hi) (by omega), ?_⟩
  have e := congrArg nums h.eq
  rw [nums_bytesOf _ hz, nums_app, nums_bytesOf _ hdz, Lib.bytesOf_length] at e
  rw [e]; rfl
theorem Tryz.size39o : (Tryz.prog.info? 39).map (·.size) = some 2 := by kernel_rfl
theorem zero39 (w : World) : (zeroValue 39).run Tryz.prog w = .ok (.agg #[.int .i64 0, .slice none 0 0]) w := by kernel_rfl
set_option maxRecDepth 20000 in
set_option maxHeartbeats 4000000 in
theorem refDecode_none (a : Option Addr) (cap : Nat) (zs : List Int) (w : World) (hl : zs.length ≤ 300000) (hz : IsB zs) (hS : Sl w a cap zs) (hno : ∀ q, q < zs.length → zs.getD q 0 ≠ 0) (h0 : (0 : UInt8) ∉ Lib.bytesOf zs) :
    Calls Tryz.prog 41 #[.slice a zs.length cap] w (PostF zs w) := by
  obtain ⟨n, HN⟩ : ∃ n, Hid (zs.length = n) := ⟨_, rfl⟩
  obtain ⟨G, HG⟩ : ∃ G, Hid (w.heap.size = G) := ⟨_, rfl⟩
  obtain ⟨w1, HW1⟩ : ∃ w1, Hid (w.alloc (.cells #[.int .i64 0, .slice none 0 0] 39) = w1) := ⟨_, rfl⟩
  have HB1 : Hid (Below G w w1) := hid (by rw [← HW1.out, ← HG.out]; exact (Below.refl _ w).alloc (Nat.le_refl _) _)
  have hs1 : w1.heap.size = G + 1 := by rw [← HW1.out, ← HG.out]; simp
  have HR1 : Hid (w1.heap[G]? = some (.cells #[.int .i64 0, .slice none 0 0] 39 (0, 0))) := hid (by rw [← HW1.out, ← HG.out]; exact heap_alloc_new w _)
  have HS1 : Hid (Sl w1 a cap zs) := hS.below (by rw [HG.out]; exact HB1.out)
  have hln : n ≤ 300000 := by rw [← HN.out]; exact hl
  have HNO : Hid (∀ q, q < n → zs.getD q 0 ≠ 0) := fun q hq => hno q (by rw [HN.out]; exact hq)
  rw [HN.out]
  clear hS
  go_enter Tryz.func41, Tryz.ntmps41
  go_wp2_with fail
  rw [HG.out, HW1.out]
  go_loopg [4] 5 (fun g v wr => g = 5 ∧ v = .int .i64 1 ∧ wr = w1)
  case atStart => exact ⟨rfl, rfl, rfl⟩
  case round =>
    obtain ⟨rfl, rfl, hwr⟩ := hrel
    have hwr' := hwr.symm
    subst hwr'
    go_wp2_with fail
    go_loopg [5] n (fun g v wr => ∃ q : Nat, q ≤ n ∧ v = .int .i64 q ∧ g = n - q ∧ wr = w1)
    case atStart => exact ⟨0, Nat.zero_le _, rfl, rfl, rfl⟩
    case round =>
      obtain ⟨q, hq, rfl, hgq, hwr⟩ := hrel
      have hwr' := hwr.symm
      subst hwr'
      by_cases hlt : q < n
      · have hlti : (q : Int) < n := by omega
        obtain ⟨b, off, rfl, _, hat⟩ := HS1.out.at_ (by rw [HN.out]; omega)
        have hc := hat q (by rw [HN.out]; exact hlt)
        obtain ⟨x, HX⟩ : ∃ x, Hid (zs.getD q 0 = x) := ⟨_, rfl⟩
        rw [HX.out] at hc
        have hx : ¬ x = 0 := by rw [← HX.out]; exact HNO.out q hlt
        have hxb : (x == 0) = false := by simpa using hx
        go_wp2
        go_roundg (n - (q + 1))
        case measure => omega
        case rel => exact ⟨q + 1, by omega, by go_num, rfl, rfl⟩
      · have hlti : ¬ (q : Int) < n := by omega
        have hlei : (n : Int) ≤ q := by omega
        have hg0 : w1.cell? ⟨G, 0, none⟩ = some (.int .i64 0) := by rw [cell_of_row w1 G 0 _ _ _ HR1.out]; rfl
        have hg1 : w1.cell? ⟨G, 1, none⟩ = some (.slice none 0 0) := by rw [cell_of_row w1 G 1 _ _ _ HR1.out]; rfl
        have hf0 : w1.frozen? ⟨G, 0, none⟩ = false := frozen_of_row w1 G 0 _ _ HR1.out
        have hf1 : w1.frozen? ⟨G, 1, none⟩ = false := frozen_of_row w1 G 1 _ _ HR1.out
        go_wp2
        exact bodyPost_ret (v := .tuple #[.agg #[.int .i64 0, .slice none 0 0], .bool false]) (results_mid2 Tryz.results41 _ _ G [.int .i64 0, .slice none 0 0] _ rfl (range_set2 hg0 hg1) Tryz.underlying39 rfl Tryz.size39o) rfl ⟨by rw [HG.out]; exact (HB1.out.setCell (Nat.le_refl _) _).setCell (Nat.le_refl _) _, .inr ⟨fun k D hg => absurd hg.has h0, rfl⟩⟩
set_option maxRecDepth 20000 in
set_option maxHeartbeats 4000000 in
theorem refDecode_some (a : Option Addr) (cap : Nat) (zs : List Int) (w : World) (hl : zs.length ≤ 300000) (hz : IsB zs) (hS : Sl w a cap zs) (i : Nat) (hi : Zr zs i) (hcu : Cu (Lib.bytesOf zs) i (Lib.bytesOf (zs.drop (i + 1)))) :
    Calls Tryz.prog 41 #[.slice a zs.length cap] w (PostF zs w) := by
  obtain ⟨n, HN⟩ : ∃ n, Hid (zs.length = n) := ⟨_, rfl⟩
  obtain ⟨G, HG⟩ : ∃ G, Hid (w.heap.size = G) := ⟨_, rfl⟩
  obtain ⟨w1, HW1⟩ : ∃ w1, Hid (w.alloc (.cells #[.int .i64 0, .slice none 0 0] 39) = w1) := ⟨_, rfl⟩
  have HB1 : Hid (Below G w w1) := hid (by rw [← HW1.out, ← HG.out]; exact (Below.refl _ w).alloc (Nat.le_refl _) _)
  have hs1 : w1.heap.size = G + 1 := by rw [← HW1.out, ← HG.out]; simp
  have HR1 : Hid (w1.heap[G]? = some (.cells #[.int .i64 0, .slice none 0 0] 39 (0, 0))) := hid (by rw [← HW1.out, ← HG.out]; exact heap_alloc_new w _)
  have hln : n ≤ 300000 := by rw [← HN.out]; exact hl
  have hin : i < n := by rw [← HN.out]; exact hi.lt
  obtain ⟨dz, HDZ⟩ : ∃ dz, Hid (dz = zs.drop (i + 1)) := ⟨_, rfl⟩
  rw [← HDZ.out] at hcu
  have hdb : IsB dz := by rw [HDZ.out]; exact fun x hx => hz x (List.mem_of_mem_drop hx)
  obtain ⟨dn, HDN⟩ : ∃ dn, Hid (dz.length = dn) := ⟨_, rfl⟩
  have hdn : n - (i + 1) = dn := by rw [← HDN.out, HDZ.out, List.length_drop, HN.out]
  obtain ⟨b, off, rfl, hbl, hat⟩ := hS.at_ (by have := HN.out; omega)
  obtain ⟨da, HDA⟩ : ∃ da : Option Addr, Hid (da = if cap = i + 1 then some ⟨b, off, none⟩ else some ⟨b, off + (i + 1), none⟩) := ⟨_, rfl⟩
  obtain ⟨dc, HDC⟩ : ∃ dc, Hid (cap - (i + 1) = dc) := ⟨_, rfl⟩
  have hsl : ∀ W, (Instr.slice 23 (.slice (some ⟨b, off, none⟩) n cap) (some (.int .i64 ((i : Int) + 1))) none none).run Tryz.prog W = .ok (.slice da dn dc) W := fun W => by
    have hc := hS.capl
    rw [HN.out] at hc
    have := slice22 b off n cap (i + 1) W (by omega) hc
    rw [← HDA.out, HDC.out, hdn] at this
    rw [show ((i : Int) + 1) = ((i + 1 : Nat) : Int) by omega]
    exact this
  have HSD : Hid (∀ W, Below G w W → Sl W da dc dz) := fun W hW => by
    have := (hS.below (w' := W) (by rw [HG.out]; exact hW)).from (i + 1) (by have := HN.out; omega) (by have := HN.out; omega)
    rw [← HDZ.out, HDC.out] at this
    rw [HDA.out]
    simpa [addr_add] using this
  have HSS : Hid (∀ W, Below G w W → Sl W (some ⟨b, off, none⟩) cap zs) := fun W hW => hS.below (by rw [HG.out]; exact hW)
  have HNO : Hid (∀ q, q < i → zs.getD q 0 ≠ 0) := hi.no
  have HAT : Hid (zs.getD i 0 = 0) := hi.at_
  have HCU : Hid _ := hcu
  have HEN : Hid (∀ (k : Nat) W, Below G w W → Calls Tryz.prog 14 #[.agg #[.int .i64 k, .slice da dn dc]] W (PostR k dz W)) := fun k W hW => by
    rw [← HDN.out]
    exact refEncode_any k da dc dz W (by have := HDN.out; omega) (HSD.out W hW)
  rw [HN.out]
  clear hcu hi hat
  have hS' : Hid _ := hS
  clear hS
  go_enter Tryz.func41, Tryz.ntmps41
  go_wp2_with fail
  rw [HG.out, HW1.out]
  go_loopg [4] 4 (fun g v wr => ∃ j : Nat, 1 ≤ j ∧ j ≤ 5 ∧ v = .int .i64 j ∧ g = 5 - j ∧ Hid (Below G w wr) ∧ G < wr.heap.size ∧ Hid (wr.heap[G]? = some (.cells #[.int .i64 0, .slice none 0 0] 39 (0, 0))) ∧ Hid (∀ k D, Gd (Lib.bytesOf zs) k D → j ≤ k))
  case atStart => exact ⟨1, by omega, by omega, rfl, rfl, HB1, by omega, HR1, fun k D hg => hg.lo⟩
  case round =>
    obtain ⟨j, hj1, hj5, rfl, hgj, HB, hGs, HR, HJ⟩ := hrel
    by_cases hj : j ≤ 4
    · have hji : (j : Int) ≤ 4 := by omega
      go_wp2_with fail
      go_loopg [5] n (fun g v wr' => ∃ q : Nat, q ≤ i ∧ v = .int .i64 q ∧ g = n - q ∧ wr' = wr)
      case atStart => exact ⟨0, Nat.zero_le _, rfl, rfl, rfl⟩
      case round =>
        obtain ⟨q, hq, rfl, hgq, hwr⟩ := hrel
        have hwr' := hwr.symm
        subst hwr'
        obtain ⟨b', off', e1, _, hat⟩ := (HSS.out wr HB.out).at_ (by have := HN.out; omega)
        cases e1
        have hqn : q < n := by omega
        have hlti : (q : Int) < n := by omega
        have hc := hat q (by rw [HN.out]; exact hqn)
        obtain ⟨x, HX⟩ : ∃ x, Hid (zs.getD q 0 = x) := ⟨_, rfl⟩
        rw [HX.out] at hc
        by_cases hlt : q < i
        · have hx : ¬ x = 0 := by rw [← HX.out]; exact HNO.out q hlt
          have hxb : (x == 0) = false := by simpa using hx
          go_wp2
          go_roundg (n - (q + 1))
          case measure => omega
          case rel => exact ⟨q + 1, by omega, by go_num, rfl, rfl⟩
        · obtain rfl : q = i := by omega
          have hx : x = 0 := by rw [← HX.out]; exact HAT.out
          subst hx
          have hlei : ¬ (n : Int) ≤ q := by omega
          obtain ⟨H, HH⟩ : ∃ H, Hid (wr.heap.size = H) := ⟨_, rfl⟩
          obtain ⟨w1', HW1'⟩ : ∃ w1', Hid (wr.alloc (.cells #[.int .i64 j, .slice da dn dc] 39) = w1') := ⟨_, rfl⟩
          have hs1' : w1'.heap.size = H + 1 := by rw [← HW1'.out, ← HH.out]; simp
          have hc0 : w1'.cell? ⟨H, 0, none⟩ = some (.int .i64 j) := by rw [← HW1'.out, ← HH.out]; simp
          have hc1 : w1'.cell? ⟨H, 1, none⟩ = some (.slice da dn dc) := by rw [← HW1'.out, ← HH.out]; simp
          have hGH : G < H := by rw [← HH.out]; exact hGs
          have hb1' : Below H wr w1' := by rw [← HW1'.out, ← HH.out]; exact (Below.refl _ wr).alloc (Nat.le_refl _) _
          have HB1' : Hid (Below G w w1') := HB.out.trans (hb1'.mono (by omega))
          have HR1' : Hid (w1'.heap[G]? = some (.cells #[.int .i64 0, .slice none 0 0] 39 (0, 0))) := (hb1'.block _ hGH).trans HR.out
          have HE1 : Hid (Calls Tryz.prog 14 #[.agg #[.int .i64 j, .slice da dn dc]] w1' (PostR j dz w1')) := HEN.out j w1' HB1'.out
          go_wp2_with fail
          rw [HW1'.out, HH.out]
          refine HE1.out.mono ?_
          rintro ev w2 ⟨hb2, ⟨he, rfl⟩ | ⟨he, g, c2, rfl, h1, h2, h3, h4⟩⟩
          · have hb2s := hb2.size
            rw [hs1'] at hb2 hb2s
            have HB2 : Hid (Below G w w2) := HB1'.out.trans (hb2.mono (by omega))
            have HR2 : Hid (w2.heap[G]? = some (.cells #[.int .i64 0, .slice none 0 0] 39 (0, 0))) := (hb2.block _ (by omega)).trans HR1'.out
            have HJ2 : Hid (∀ k D, Gd (Lib.bytesOf zs) k D → j + 1 ≤ k) := fun k D hg => by
              have h := HJ.out k D hg
              rcases Nat.lt_or_ge j k with h' | h'
              · omega
              · obtain rfl : k = j := by omega
                obtain ⟨_, rfl⟩ := HCU.out.gd k D hg
                exact absurd (enc_gd hz hdb hg).1 he
            obtain ⟨er, HER⟩ : ∃ er, Hid (er = errE j dz.length) := ⟨_, rfl⟩
            have her : ¬ er = 0 := by rw [HER.out]; exact he
            have her2 : (er == 0) = false := by simpa using her
            rw [← HER.out]
            clear hb2 he hc0 hc1 hc
            go_wp2
            go_roundg (5 - (j + 1))
            case measure => omega
            case rel => exact ⟨j + 1, by omega, by omega, by go_num, rfl, HB2, by omega, HR2, HJ2⟩
          · have hb2s := hb2.size
            rw [hs1'] at hb2 hb2s
            have HB2 : Hid (Below G w w2) := HB1'.out.trans (hb2.mono (by omega))
            have HR2 : Hid (w2.heap[G]? = some (.cells #[.int .i64 0, .slice none 0 0] 39 (0, 0))) := (hb2.block _ (by omega)).trans HR1'.out
            have hcv1 := conv_str (l := encZ j dz) (a := some ⟨g, 0, none⟩) (cap := c2) (w := w2) ⟨h4, fun _ => ⟨g, 0, rfl, h2, h3⟩, fun e => by cases e⟩
            have hcv2 := conv_str (HSS.out w2 HB2.out)
            obtain ⟨L, HL⟩ : ∃ L, Hid ((encZ j dz).length = L) := ⟨_, rfl⟩
            rw [HL.out] at hcv1 ⊢
            rw [HN.out] at hcv2
            have hd0 : w2.cell? ⟨H, 0, none⟩ = some (.int .i64 j) := (hb2.cell (p := ⟨H, 0, none⟩) (show H < H + 1 by omega)).trans hc0
            have hd1 : w2.cell? ⟨H, 1, none⟩ = some (.slice da dn dc) := (hb2.cell (p := ⟨H, 1, none⟩) (show H < H + 1 by omega)).trans hc1
            obtain ⟨S2, HS2⟩ : ∃ S : ByteArray, Hid (S = ⟨(Lib.bytesOf zs).toArray⟩) := ⟨_, rfl⟩
            by_cases heq : encZ j dz = zs
            · rw [heq, ← HS2.out] at hcv1
              rw [← HS2.out] at hcv2
              have hgd := gd_enc hz hdb hj1 hj he heq
              have HGD : Hid _ := hgd
              have hg0 : w2.cell? ⟨G, 0, none⟩ = some (.int .i64 0) := by rw [cell_of_row w2 G 0 _ _ _ HR2.out]; rfl
              have hg1 : w2.cell? ⟨G, 1, none⟩ = some (.slice none 0 0) := by rw [cell_of_row w2 G 1 _ _ _ HR2.out]; rfl
              have hf0 : w2.frozen? ⟨G, 0, none⟩ = false := frozen_of_row w2 G 0 _ _ HR2.out
              have hf1 : w2.frozen? ⟨G, 1, none⟩ = false := frozen_of_row w2 G 1 _ _ HR2.out
              clear hb2 he hc0 hc1 hc heq hgd h1 h2 h3 h4
              go_wp2
              have hbE : Below G w ((w2.setCell ⟨G, 0, none⟩ (.int .i64 j)).setCell ⟨G, 1, none⟩ (.slice da dn dc)) := (HB2.out.setCell (Nat.le_refl _) _).setCell (Nat.le_refl _) _
              refine bodyPost_ret (v := .tuple #[.agg #[.int .i64 j, .slice da dn dc], .bool true]) (results_mid2 Tryz.results41 _ _ G [.int .i64 j, .slice da dn dc] _ rfl (range_set2 hg0 hg1) Tryz.underlying39 rfl Tryz.size39o) rfl ⟨by rw [HG.out]; exact hbE, .inl ⟨j, Lib.bytesOf dz, da, dc, HGD.out, ?_, ?_⟩⟩
              · rw [Lib.bytesOf_length, HDN.out]
              · rw [nums_bytesOf _ hdb]
                exact HSD.out _ hbE
            · obtain ⟨S1, HS1⟩ : ∃ S : ByteArray, Hid (S = ⟨(Lib.bytesOf (encZ j dz)).toArray⟩) := ⟨_, rfl⟩
              rw [← HS1.out] at hcv1
              rw [← HS2.out] at hcv2
              have hne : (S1.toList == S2.toList) = false := by
                rw [HS1.out, HS2.out, Lib.toList_data, Lib.toList_data]
                refine beq_eq_false_iff_ne.2 fun e => heq ?_
                have e' := congrArg nums (show Lib.bytesOf (encZ j dz) = Lib.bytesOf zs from e)
                rwa [nums_bytesOf _ (encZ_isB _ _ hdb), nums_bytesOf _ hz] at e'
              have HJ2 : Hid (∀ k D, Gd (Lib.bytesOf zs) k D → j + 1 ≤ k) := fun k D hg => by
                have h := HJ.out k D hg
                rcases Nat.lt_or_ge j k with h' | h'
                · omega
                · obtain rfl : k = j := by omega
                  obtain ⟨_, rfl⟩ := HCU.out.gd k D hg
                  exact absurd (enc_gd hz hdb hg).2 heq
              clear hb2 he hc0 hc1 hc heq hd0 hd1 h1 h2 h3 h4
              go_wp2
              go_roundg (5 - (j + 1))
              case measure => omega
              case rel => exact ⟨j + 1, by omega, by omega, by go_num, rfl, HB2, by omega, HR2, HJ2⟩
    · have hji : ¬ (j : Int) ≤ 4 := by omega
      have hg0 : wr.cell? ⟨G, 0, none⟩ = some (.int .i64 0) := by rw [cell_of_row wr G 0 _ _ _ HR.out]; rfl
      have hg1 : wr.cell? ⟨G, 1, none⟩ = some (.slice none 0 0) := by rw [cell_of_row wr G 1 _ _ _ HR.out]; rfl
      have hf0 : wr.frozen? ⟨G, 0, none⟩ = false := frozen_of_row wr G 0 _ _ HR.out
      have hf1 : wr.frozen? ⟨G, 1, none⟩ = false := frozen_of_row wr G 1 _ _ HR.out
      go_wp2
      exact bodyPost_ret (v := .tuple #[.agg #[.int .i64 0, .slice none 0 0], .bool false]) (results_mid2 Tryz.results41 _ _ G [.int .i64 0, .slice none 0 0] _ rfl (range_set2 hg0 hg1) Tryz.underlying39 rfl Tryz.size39o) rfl ⟨by rw [HG.out]; exact (HB.out.setCell (Nat.le_refl _) _).setCell (Nat.le_refl _) _, .inr ⟨fun k D hg => by have := HJ.out k D hg; have := hg.hi; omega, rfl⟩⟩
theorem refDecode_any (a : Option Addr) (cap : Nat) (zs : List Int) (w : World) (hl : zs.length ≤ 300000) (hz : IsB zs) (hS : Sl w a cap zs) : Calls Tryz.prog 41 #[.slice a zs.length cap] w (PostF zs w) := by
  rcases zr_split zs hz with ⟨h1, h2⟩ | ⟨i, h1, h2⟩
  · exact refDecode_none a cap zs w hl hz hS h1 h2
  · exact refDecode_some a cap zs w hl hz hS i h1 h2
end Go.Proofs.YtbpdielmdhhdfaaGreatDoor
