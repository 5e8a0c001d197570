import Derived.Test.YtikmbjfambjmaaaGreatDoorMf14
import Derived.Test.YtikmbjfambjmaaaGreatDoorMf11
import Derived.Test.YtikmbjfambjmaaaGreatDoorMf08
namespace Go.Proofs.YtikmbjfambjmaaaGreatDoor
open Go.RowKit
variable [Inhabited Er] [Inhabited En]
set_option linter.unusedVariables false
set_option linter.unusedSectionVars false
set_option linter.unusedSimpArgs false
def adB (a : Option Addr) (cap j : Nat) : Option Addr := if cap = j then a else a.map (·.add (j * 1))
theorem Sl.mid {w : World} {a : Option Addr} {cap : Nat} {zs : List Int} (h : Sl w a cap zs) (i j : Nat) (hij : i ≤ j) (hj : j ≤ zs.length) : Sl w (adB a cap i) (cap - i) ((zs.drop i).take (j - i)) :=
  ⟨by rw [List.length_take, List.length_drop]; have := h.capl; omega, fun h0 => by
    rw [List.length_take, List.length_drop] at h0
    obtain ⟨b, off, e1, e2, e3⟩ := h.at_ (by omega)
    subst e1
    have hc := h.capl
    refine ⟨b, off + i, by unfold adB; rw [if_neg (by omega), Option.map_some, addr_add, Nat.mul_one], e2, fun q hq => ?_⟩
    rw [List.length_take, List.length_drop] at hq
    have := e3 (i + q) (by omega)
    rw [Nat.add_assoc, this]
    congr 2
    rw [List.getD_eq_getElem?_getD, List.getD_eq_getElem?_getD, List.getElem?_take, if_pos (by omega), List.getElem?_drop], fun h2 => by
    have : a = none := by
      unfold adB at h2
      split at h2
      · exact h2
      · cases a with
        | none => rfl
        | some p => cases h2
    have := h.nil this
    omega⟩
theorem elem23 : Tryz.prog.underlying 26 = some (.slice (Tryz.prog.elem 26)) := by kernel_rfl
theorem sizeB (w : World) : (sizeOf (Tryz.prog.elem 26)).run Tryz.prog w = .ok 1 w := by kernel_rfl
theorem slB (a : Option Addr) (n cap i j : Nat) (hij : i ≤ j) (hj : j ≤ cap) (w : World) : (Instr.slice 26 (.slice a n cap) (some (.int .i64 i)) (some (.int .i64 j)) none).run Tryz.prog w = .ok (.slice (adB a cap i) (j - i) (cap - i)) w := by
  rw [run_slice_lh w 26 a n cap elem23 .i64 .i64 i j (by omega) (by omega) (by omega), sizeB, Result.andThen_ok, sliced]
  rfl
structure QM (K : Nat) (md : Int) (b0 o : Nat) (c : Int) (W : World) : Prop where
  m : W.cell? ⟨K, 0, none⟩ = some (.int .i64 md)
  b : W.cell? ⟨b0, o, none⟩ = some (.int .u8 c)
theorem nums_getD (l : List UInt8) (i : Nat) (c : UInt8) (h : l[i]? = some c) : (nums l).getD i 0 = (c.toNat : Int) := by
  simp [nums, List.getD_eq_getElem?_getD, h]
theorem take_snocB (t : List UInt8) (k : Nat) (c : UInt8) (h : t[k]? = some c) : t.take (k + 1) = t.take k ++ [c] := by
  rw [List.take_add_one, h]; rfl
set_option maxRecDepth 20000 in
set_option maxHeartbeats 16000000 in
theorem readTreeR_any (a : Option Addr) (cap : Nat) (zs : List Int) (hl : zs.length ≤ 20000) (hz : IsB zs) (w : World) (hS : Sl w a cap zs) :
    Calls Tryz.prog 26 #[.slice a zs.length cap] w fun e w' => Below w.heap.size w w' ∧ PostRD w.heap.size (Lib.bytesOf zs) e w' := by
  obtain ⟨n, HN⟩ : ∃ n, Hid (zs.length = n) := ⟨_, rfl⟩
  have hnn : n ≤ 20000 := by rw [← HN.out]; exact hl
  obtain ⟨l, HL⟩ : ∃ l, Hid (Lib.bytesOf zs = l) := ⟨_, rfl⟩
  have HLL : Hid (l.length = n) := hid (by rw [← HL.out, Lib.bytesOf_length]; exact HN.out)
  have HZN : Hid (zs = nums l) := hid (by rw [← HL.out]; exact (nums_bytesOf zs hz).symm)
  obtain ⟨G, HG⟩ : ∃ G, Hid (w.heap.size = G) := ⟨_, rfl⟩
  obtain ⟨zr, HZ⟩ : ∃ zr : Array Value, Hid (zr = (erV ⟨0, [], z20⟩).toArray) := ⟨_, rfl⟩
  have hz103 : ∀ w : World, (zeroValue 90).run Tryz.prog w = .ok (.agg zr) w := fun w => by rw [HZ.out]; exact zero103 w
  have HSL : Hid (∀ W, Below G w W → Sl W a cap zs) := fun W hW => hS.below (by rw [HG.out]; exact hW)
  have HSB : Hid (0 < n → ∃ b off, a = some ⟨b, off, none⟩ ∧ b < G) := fun h0 => by
    obtain ⟨b, off, e1, e2, _⟩ := hS.at_ (by rw [HN.out]; exact h0)
    exact ⟨b, off, e1, by rw [← HG.out]; exact e2⟩
  have hcapn : n ≤ cap := by rw [← HN.out]; exact hS.capl
  have HGS : Hid (G ≤ w.heap.size) := hid (by rw [HG.out]; exact Nat.le_refl _)
  obtain ⟨LS, HLS⟩ : ∃ S : ByteArray, Hid (⟨l.toArray⟩ = S) := ⟨_, rfl⟩
  have HCB : Hid (∀ W, Below G w W → (convert 26 9 (.slice a n cap)).run Tryz.prog W = .ok (.string LS) W) := fun W hW => by
    have := conv_str (HSL.out W hW)
    rw [HL.out, HN.out, HLS.out] at this
    exact this
  have HE0 : Hid (Be w w G (.slice none 0 0) []) := hid (be_nil w G (by rw [HG.out]; exact Nat.le_refl _))
  have HRB0 : Hid (Rb l [] (l.drop 0)) := hid (by rw [List.drop_zero]; exact Rb.start l)
  rw [HN.out, HL.out]
  clear hS
  go_enter Tryz.func26, Tryz.ntmps26
  go_wp2_with fail
  go_loopg [4, 5] n (fun g u pv wr => ∃ (p : Nat) (v : Value) (es : List Er), v = u ∧ g = n - p ∧ pv = .int .i64 p ∧ p ≤ n ∧ Hid (Be w wr G v es) ∧ Hid (Rb l es (l.drop p)) ∧ Hid (WfE es) ∧ Hid (∀ x ∈ es, x.name.length ≤ 20000) ∧ es.length * 21 ≤ p)
  case atStart => exact ⟨0, _, [], rfl, rfl, rfl, Nat.zero_le _, HE0, HRB0, hid (fun x hx => by cases hx), hid (fun x hx => by cases hx), by simp⟩
  case round =>
    obtain ⟨p, v, es, hv, hgp, rfl, hpn, HBE, HRB, HWF, HNMS, hcnt⟩ := hrel
    subst hv
    by_cases hplt : p < n
    · have hplti : (p : Int) < (n : Int) := by omega
      obtain ⟨b0, off, hae, hb0G⟩ := HSB.out (by omega)
      subst hae
      obtain ⟨t, HT⟩ : ∃ t, Hid (l.drop p = t) := ⟨_, rfl⟩
      rw [HT.out] at HRB
      have HTL : Hid (t.length = n - p) := hid (by rw [← HT.out, List.length_drop, HLL.out])
      have ht : t ≠ [] := fun h => by have := HTL.out; rw [h] at this; simp at this; omega
      have HCL : Hid (∀ W, Below G w W → ∀ i c, l[i]? = some c → W.cell? ⟨b0, off + i, none⟩ = some (.int .u8 (c.toNat : Int))) := fun W hW i c hc => by
        have hi : i < l.length := (List.getElem?_eq_some_iff.1 hc).1
        obtain ⟨b', off', e1, e2, e3⟩ := (HSL.out W hW).at_ (by rw [HN.out, ← HLL.out]; omega)
        cases e1
        have := e3 i (by rw [HN.out, ← HLL.out]; exact hi)
        rw [this, HZN.out, nums_getD l i c hc]
      obtain ⟨wo, HWO⟩ : ∃ wo, Hid (wr = wo) := ⟨_, rfl⟩
      obtain ⟨K, HK⟩ : ∃ K, Hid (wo.heap.size = K) := ⟨_, rfl⟩
      have HBO : Hid (Be w wo G v es) := hid (by rw [← HWO.out]; exact HBE.out)
      have hGK : G ≤ K := by rw [← HK.out]; exact HBO.out.le
      have HK2 : Hid (wr.heap.size = K) := hid (by rw [HWO.out]; exact HK.out)
      have HAL : Hid (Below K wo (wr.alloc (.cells zr 90))) := hid (by rw [HWO.out, ← HK.out]; exact (Below.refl _ wo).alloc (Nat.le_refl _) _)
      have HAB : Hid ((wr.alloc (.cells zr 90)).heap[K]? = some (.cells (erV ⟨0, [], z20⟩).toArray 90 (0, 0))) := hid (by rw [← HK2.out, heap_alloc_new wr (.cells zr 90), HZ.out])
      clear HBE
      go_wp2_with fail
      rw [HK2.out]
      go_loopg [5] (n + 1 - p) (fun g qv wq => ∃ (q k : Nat) (md : Int), g = n + 1 - q ∧ qv = .int .i64 q ∧ q ≤ p + k ∧ p + k ≤ q ∧ q ≤ n ∧ 0 ≤ md ∧ md ≤ 8388615 ∧ Hid (md = oval (t.take k)) ∧ Hid (Below K wo wq) ∧ Hid (wq.heap[K]? = some (.cells (erV ⟨md, [], z20⟩).toArray 90 (0, 0))) ∧ Hid ((32 : UInt8) ∉ t.take k))
      case atStart => exact ⟨p, 0, 0, rfl, rfl, Nat.le_refl _, Nat.le_refl _, hpn, by decide, by decide, hid rfl, HAL, HAB, hid (by simp)⟩
      case round =>
        obtain ⟨q, k, md, hgq, rfl, hqk, hqk', hqn, hmd0, hmd1, HMD, HB1, HBX1, H32⟩ := hrel
        have HBR : Hid (Below G w wr) := hid (HBO.out.below.trans (HB1.out.mono hGK))
        by_cases hqlt : q < n
        · have hqlti : (q : Int) < (n : Int) := by omega
          obtain ⟨c, hc⟩ : ∃ c, l[q]? = some c := ⟨_, List.getElem?_eq_getElem (by rw [HLL.out]; exact hqlt)⟩
          obtain ⟨ci, HCI⟩ : ∃ ci : Int, Hid ((c.toNat : Int) = ci) := ⟨_, rfl⟩
          have hci : 0 ≤ ci ∧ ci < 256 := by rw [← HCI.out]; have := c.toNat_lt; omega
          have hcell : wr.cell? ⟨b0, off + q, none⟩ = some (.int .u8 ci) := by rw [← HCI.out]; exact HCL.out wr HBR.out q c hc
          have HCT : Hid (t[k]? = some c) := hid (by rw [← HT.out, List.getElem?_drop, ← hc]; congr 1; omega)
          have HC32 : Hid (ci = 32 ↔ c = 32) := hid (by
            rw [← HCI.out]
            constructor
            · intro h; exact UInt8.toNat_inj.1 (by show c.toNat = 32; omega)
            · intro h; rw [h]; rfl)
          have hck : wr.cell? ⟨K, 0, none⟩ = some (.int .i64 md) := by rw [cell_of_row wr K 0 _ 90 _ HBX1.out]; rfl
          clear hc
          by_cases h32 : ci = 32
          · have HS1 : Hid (k = t.length ∨ t[k]? = some 32) := hid (.inr (by rw [HCT.out, HC32.out.1 h32]))
            subst h32
            clear hci hck
            go_wp2_with fail
            go_loopg [5] (n + 1 - (q + 1)) (fun g rv wq => ∃ (r j : Nat), g = n + 1 - r ∧ rv = .int .i64 r ∧ r ≤ q + 1 + j ∧ q + 1 + j ≤ r ∧ (r ≤ q + 1 ∨ r ≤ n) ∧ Hid (Below K wo wq) ∧ Hid (wq.heap[K]? = some (.cells (erV ⟨md, [], z20⟩).toArray 90 (0, 0))) ∧ Hid ((0 : UInt8) ∉ (t.drop (k + 1)).take j))
            case atStart => exact ⟨q + 1, 0, rfl, by go_num, Nat.le_refl _, Nat.le_refl _, .inl (Nat.le_refl _), HB1, HBX1, hid (by simp)⟩
            case round =>
              obtain ⟨r, j, hgr, rfl, hrj, hrj', hrn, HB2, HBX2, H00⟩ := hrel
              have hrq : q + 1 ≤ r := by omega
              have HBR : Hid (Below G w wr) := hid (HBO.out.below.trans (HB2.out.mono hGK))
              by_cases hrlt : r < n
              · have hrlti : (r : Int) < (n : Int) := by omega
                obtain ⟨c, hc⟩ : ∃ c, l[r]? = some c := ⟨_, List.getElem?_eq_getElem (by rw [HLL.out]; exact hrlt)⟩
                obtain ⟨ci, HCI⟩ : ∃ ci : Int, Hid ((c.toNat : Int) = ci) := ⟨_, rfl⟩
                have hcell : wr.cell? ⟨b0, off + r, none⟩ = some (.int .u8 ci) := by rw [← HCI.out]; exact HCL.out wr HBR.out r c hc
                have HCT : Hid ((t.drop (k + 1))[j]? = some c) := hid (by rw [← HT.out, List.getElem?_drop, List.getElem?_drop, ← hc]; congr 1; omega)
                have HC0 : Hid (ci = 0 ↔ c = 0) := hid (by
                  rw [← HCI.out]
                  constructor
                  · intro h; exact UInt8.toNat_inj.1 (by show c.toNat = 0; omega)
                  · intro h; rw [h]; rfl)
                clear hc
                by_cases h0 : ci = 0
                · have HS2 : Hid (j = (t.drop (k + 1)).length ∨ (t.drop (k + 1))[j]? = some 0) := hid (.inr (by rw [HCT.out, HC0.out.1 h0]))
                  subst h0
                  by_cases h21 : r + 21 ≤ n
                  · have h21i : ¬ (n : Int) - (r : Int) < 21 := by omega
                    obtain ⟨nm, HNM⟩ : ∃ s, Hid ((t.drop (k + 1)).take j = s) := ⟨_, rfl⟩
                    obtain ⟨ib, HIB⟩ : ∃ s, Hid (nums ((t.drop (k + 1 + (j + 1))).take 20) = s) := ⟨_, rfl⟩
                    obtain ⟨x, HX⟩ : ∃ x : Er, Hid (⟨oval (t.take k), nm, ib⟩ = x) := ⟨_, rfl⟩
                    have HRF : Hid (Rf t x (t.drop (k + 1 + (j + 1) + 20))) := hid (by
                      have := entry_doc (t := t) (k := k) (j := j) H32.out HS1.out H00.out HS2.out
                      rw [HNM.out, HIB.out, HX.out] at this
                      exact this)
                    have hib : ib.length = 20 := by rw [← HIB.out, nums_len, List.length_take, List.length_drop, HTL.out]; omega
                    have HXI : Hid (x.id.length = 20 ∧ ∀ n ∈ x.id, 0 ≤ n ∧ n < 256) := hid (by rw [← HX.out]; exact ⟨hib, by rw [← HIB.out]; exact fun n hn => nums_isB _ n hn⟩)
                    have HXN : Hid (x.name.length ≤ 20000) := hid (by rw [← HX.out, ← HNM.out]; show ((t.drop (k + 1)).take j).length ≤ 20000; rw [List.length_take, List.length_drop, HTL.out]; omega)
                    obtain ⟨S, HS⟩ : ∃ S : ByteArray, Hid (⟨nm.toArray⟩ = S) := ⟨_, rfl⟩
                    obtain ⟨fr, HFR⟩ : ∃ fr, Hid (q + 1 = fr) := ⟨_, rfl⟩
                    obtain ⟨an, HAN⟩ : ∃ a', Hid (adB (some ⟨b0, off, none⟩) cap fr = a') := ⟨_, rfl⟩
                    obtain ⟨cn, HCN⟩ : ∃ c', Hid (cap - fr = c') := ⟨_, rfl⟩
                    obtain ⟨ln, HLN⟩ : ∃ c', Hid (r - fr = c') := ⟨_, rfl⟩
                    have hfrr : fr ≤ r := by rw [← HFR.out]; exact hrq
                    have hsl1 : ∀ W, (Instr.slice 26 (.slice (some ⟨b0, off, none⟩) n cap) (some (.int .i64 ((q : Int) + 1))) (some (.int .i64 r)) none).run Tryz.prog W = .ok (.slice an ln cn) W := fun W => by
                      rw [← HAN.out, ← HCN.out, ← HLN.out]
                      have h := slB (some ⟨b0, off, none⟩) n cap fr r hfrr (by omega) W
                      rw [show ((fr : Nat) : Int) = (q : Int) + 1 by have := HFR.out; omega] at h
                      exact h
                    have HDN : Hid ((zs.drop fr).take (r - fr) = nums nm) := hid (by
                      rw [HZN.out, ← HNM.out, ← HT.out, ← HFR.out]
                      simp only [nums, ← List.map_drop, ← List.map_take, List.drop_drop]
                      congr 1
                      rw [show r - (q + 1) = j by omega, show p + (k + 1) = q + 1 by omega])
                    have HLNN : Hid (ln = nm.length) := hid (by rw [← HLN.out, ← nums_len nm, ← HDN.out, List.length_take, List.length_drop, HN.out]; omega)
                    have HBw2 : Hid (Below G w wr) := hid (HBO.out.below.trans (HB2.out.mono hGK))
                    have hcv : ∀ W, Below G w W → (convert 26 9 (.slice an ln cn)).run Tryz.prog W = .ok (.string S) W := fun W hW => by
                      have h := conv_str ((HSL.out W hW).mid fr r hfrr (by rw [HN.out]; omega))
                      rw [HDN.out, HAN.out, HCN.out, nums_len, ← HLNN.out, bytesOf_nums, HS.out] at h
                      exact h
                    have hcv1 := hcv _ HBw2.out
                    clear hcv
                    obtain ⟨R0, HR0⟩ : ∃ R, Hid (erV ⟨md, [], z20⟩ = R) := ⟨_, rfl⟩
                    have BX0 : Hid (wr.heap[K]? = some (.cells R0.toArray 90 (0, 0))) := hid (by rw [← HR0.out]; exact HBX2.out)
                    have HR0L : Hid (R0.length = 22) := hid (by rw [← HR0.out]; exact erV_len _ rfl)
                    have hc1 : wr.cell? ⟨K, 1, none⟩ = some (.string ⟨#[]⟩) := by
                      rw [cell_of_row wr K 1 _ 90 _ BX0.out, ← HR0.out]; rfl
                    have hf1 : wr.frozen? ⟨K, 1, none⟩ = false := frozen_of_row wr K 1 _ 90 BX0.out
                    obtain ⟨w3, HW3⟩ : ∃ w3, Hid (wr.setCell ⟨K, 1, none⟩ (.string S) = w3) := ⟨_, rfl⟩
                    have B3 : Hid (w3.heap[K]? = some (.cells (erV ⟨md, nm, z20⟩).toArray 90 (0, 0))) := hid (by
                      rw [← HW3.out, blk_set BX0.out 1 (.string S), ← HR0.out, ← HS.out]; rfl)
                    have HB3 : Hid (Below K wo w3) := hid (by rw [← HW3.out]; exact HB2.out.setCell (Nat.le_refl _) _)
                    go_wp2_with fail
                    rw [HW3.out]
                    obtain ⟨am, HAM⟩ : ∃ a', Hid (adB (some ⟨b0, off, none⟩) cap (r + 1) = a') := ⟨_, rfl⟩
                    obtain ⟨cm, HCM⟩ : ∃ c', Hid (cap - (r + 1) = c') := ⟨_, rfl⟩
                    have hsl2 : ∀ W, (Instr.slice 26 (.slice (some ⟨b0, off, none⟩) n cap) (some (.int .i64 ((r : Int) + 1))) (some (.int .i64 ((r : Int) + 21))) none).run Tryz.prog W = .ok (.slice am 20 cm) W := fun W => by
                      rw [← HAM.out, ← HCM.out]
                      have h := slB (some ⟨b0, off, none⟩) n cap (r + 1) (r + 21) (by omega) (by omega) W
                      rw [show r + 21 - (r + 1) = 20 by omega] at h
                      exact h
                    have HDI : Hid ((zs.drop (r + 1)).take 20 = ib) := hid (by
                      rw [HZN.out, ← HIB.out, ← HT.out]
                      simp only [nums, ← List.map_drop, ← List.map_take, List.drop_drop]
                      rw [show p + (k + 1 + (j + 1)) = r + 1 by omega])
                    have HBw3 : Hid (Below G w w3.drew) := hid (below_drewH (HBO.out.below.trans (HB3.out.mono hGK)) 1)
                    have HSM : Hid (Sl w3.drew am cm ib) := hid (by
                      have h := (HSL.out w3.drew HBw3.out).mid (r + 1) (r + 21) (by omega) (by rw [HN.out]; omega)
                      rw [show r + 21 - (r + 1) = 20 by omega, HDI.out, HAM.out, HCM.out] at h
                      exact h)
                    obtain ⟨b3, off3, hae3, hbm, hat3⟩ := HSM.out.at_ (by omega)
                    subst hae3
                    obtain ⟨w4, HW4⟩ : ∃ w4, Hid (w3.drew.setCells K 2 (ib.map (Value.int .u8)) = w4) := ⟨_, rfl⟩
                    have hcp : ∀ ty, (Builtin.copy_ #[26, 26] ty #[.slice (some ⟨K, 2, none⟩) 20 20, .slice (some ⟨b3, off3, none⟩) 20 cm]).run Tryz.prog w3.drew = .ok (.int .i64 20) w4 := fun ty => by
                      have B3d : w3.drew.heap[K]? = some (.cells (erV ⟨md, nm, z20⟩).toArray 90 (0, 0)) := B3.out
                      have h := run_copy_cells (P := Tryz.prog) w3.drew 26 26 ty 5 K 2 20 20 ⟨b3, off3, none⟩ 20 cm (ib.map (Value.int .u8)) Tryz.underlying26 Tryz.size5 (by rw [List.length_map, hib]; rfl) (fun q u hq => by
                          rw [List.getElem?_map] at hq
                          cases hcq : ib[q]? with
                          | none => rw [hcq] at hq; cases hq
                          | some y =>
                            rw [hcq] at hq; cases hq
                            have hlt := (List.getElem?_eq_some_iff.1 hcq).1
                            have := hat3 q hlt
                            rw [addr_add]
                            simpa [List.getD_eq_getElem?_getD, hcq] using this)
                        (fun q hq => by
                          rw [List.length_map, hib] at hq
                          rw [cell_of_row _ K (2 + q) _ 90 _ B3d, List.getElem?_toArray, List.getElem?_eq_getElem (by rw [erV_len _ rfl]; omega)]
                          rfl) (fun q hq => frozen_of_row _ K _ _ 90 B3d) (ints_oneCell .u8 ib)
                      rw [List.length_map, hib, HW4.out] at h
                      exact h
                    obtain ⟨R1, HR1⟩ : ∃ R, Hid (erV x = R) := ⟨_, rfl⟩
                    have B4 : Hid (w4.heap[K]? = some (.cells R1.toArray 90 (0, 0))) := hid (by
                      have h1 := heap_setCells_same K 90 (ib.map (Value.int .u8)) 2 w3.drew (erV ⟨md, nm, z20⟩) B3.out
                      rw [HW4.out] at h1
                      rw [h1, ← HR1.out, ← HX.out, ← HMD.out]
                      congr 2
                      have := setAt_mid (ib.map (Value.int .u8)) (row .u8 z20) [Value.int .i64 md, Value.string ⟨nm.toArray⟩] [] (by rw [List.length_map, hib]; rfl)
                      rw [List.append_nil, List.append_nil] at this
                      exact (congrArg List.toArray this).trans (by rw [HMD.out]; rfl))
                    have HB4 : Hid (Below K wo w4) := hid (by rw [← HW4.out]; exact below_setCells (Nat.le_refl _) _ _ _ _ (below_drewH HB3.out 1))
                    have HBE4 : Hid (Be w w4 G v es) := hid (HBO.out.carry (by rw [HK.out]; exact HB4.out))
                    have HR1L : Hid (R1.length = 22) := hid (by rw [← HR1.out]; exact erV_len x HXI.out.1)
                    have hi103 : (Tryz.prog.info? 90).map (·.size) = some R1.length := by rw [HR1L.out]; exact size103
                    have L4 : Hid (w4.rangeAt K 0 R1) := hid (range_row B4.out)
                    have hw1 : IntKind.i64.wrap ((r : Int) + 1) = (r : Int) + 1 := by rw [IntKind.wrap_i64]; omega
                    have hw2 : IntKind.i64.wrap ((r : Int) + 21) = (r : Int) + 21 := by rw [IntKind.wrap_i64]; omega
                    refine wp_region_held_drew (S := fun _ => True) (by kernel_rfl) trivial (fun hHeld => ?_)
                    refine takeL (i := 0) (v := ?_) rfl (by kernel_rfl) (by kernel_rfl) (by kernel_rfl) (fun _ _ _ h => h) (Or.inl ⟨by rfl, ?_⟩) hHeld ?_
                    rotate_left
                    · rintro w' _; go_simp; rfl
                    try simp only [Act.put, List.setIfInBounds_toArray, List.set_cons_zero, List.set_cons_succ]
                    refine takeL (i := 1) (v := ?_) rfl (by kernel_rfl) (by kernel_rfl) (by kernel_rfl) (fun _ _ _ h => h) (Or.inl ⟨by rfl, ?_⟩) hHeld ?_
                    rotate_left
                    · rintro w' _; go_simp; rfl
                    try simp only [Act.put, List.setIfInBounds_toArray, List.set_cons_zero, List.set_cons_succ]
                    refine takeL (i := 2) (v := ?_) rfl (by kernel_rfl) (by kernel_rfl) (by kernel_rfl) (fun _ _ _ h => h) (Or.inl ⟨by rfl, ?_⟩) hHeld ?_
                    rotate_left
                    · rintro w' _; go_simp; rfl
                    try simp only [Act.put, List.setIfInBounds_toArray, List.set_cons_zero, List.set_cons_succ]
                    refine takeL (i := 3) (v := ?_) rfl (by kernel_rfl) (by kernel_rfl) (by kernel_rfl) (fun _ _ _ h => h) (Or.inl ⟨by rfl, ?_⟩) hHeld ?_
                    rotate_left
                    · rintro w' _; go_simp; rfl
                    try simp only [Act.put, List.setIfInBounds_toArray, List.set_cons_zero, List.set_cons_succ]
                    refine takeL (i := 4) (v := ?_) rfl (by kernel_rfl) (by kernel_rfl) (by kernel_rfl) (fun _ _ _ h => h) (Or.inl ⟨by rfl, ?_⟩) hHeld ?_
                    rotate_left
                    · rintro w' _; go_simp; rfl
                    try simp only [Act.put, List.setIfInBounds_toArray, List.set_cons_zero, List.set_cons_succ]
                    refine takeL (i := 5) (v := ?_) rfl (by kernel_rfl) (by kernel_rfl) (by kernel_rfl) (fun _ _ _ h => h) (Or.inl ⟨by rfl, ?_⟩) hHeld ?_
                    rotate_left
                    · rintro w' _; go_simp; rfl
                    try simp only [Act.put, List.setIfInBounds_toArray, List.set_cons_zero, List.set_cons_succ]
                    refine takeL (i := 6) (v := ?_) rfl (by kernel_rfl) (by kernel_rfl) (by kernel_rfl) (fun _ _ _ h => h) (Or.inl ⟨by rfl, ?_⟩) hHeld ?_
                    rotate_left
                    · rintro w' _; go_simp; rfl
                    try simp only [Act.put, List.setIfInBounds_toArray, List.set_cons_zero, List.set_cons_succ]
                    refine takeL (i := 7) (v := ?_) rfl (by kernel_rfl) (by kernel_rfl) (by kernel_rfl) (fun _ _ _ h => h) (Or.inl ⟨by rfl, ?_⟩) hHeld ?_
                    rotate_left
                    · rintro w' _; go_simp; rfl
                    try simp only [Act.put, List.setIfInBounds_toArray, List.set_cons_zero, List.set_cons_succ]
                    clear hw1 hw2
                    refine wpAnyH_ready (rs := [8]) (by kernel_rfl) (by simp) ?_
                    refine consL rfl (fun KK hKK => ?_) AllReadyH.nil
                    refine step_exec (by rfl) (.int .i64 20) (w' := w4) (by unfold execOp; simp only [resolve, invoke, builtin, Sem.run_bind, Sem.run_pure, Result.andThen_ok, List.map_toArray, List.map_cons, List.map_nil]; exact (congrArg (fun r => Result.andThen r _) (hcp _)).trans rfl) ?_
                    refine hKK.out _ _ trivial (fun hHeld => ?_)
                    clear hKK KK hcp
                    try simp only [Act.put, List.setIfInBounds_toArray, List.set_cons_zero, List.set_cons_succ]
                    refine wpAnyH_done (by kernel_rfl) ?_ _
                    clear hHeld hsl1 hsl2 hcv1 hc1 hf1
                    have hes3 : es.length + 1 ≤ 3000 := by omega
                    have HX1 : Hid (∀ y ∈ [x], y.id.length = 20) := fun y hy => by
                      have : y = x := by simpa using hy
                      rw [this]; exact HXI.out.1
                    go_wp2_with (first
                      | refine wpList_load_mid rfl 90 _ rfl K 0 rfl R1 _ L4.out Tryz.underlying90 rfl hi103 ?_
                      | refine wpList_buildS rfl 86 1 _ rfl (.agg R1.toArray) _ rfl (by rw [← HR1.out]; exact run_build103 x HXI.out.1 _) ?_
                      | (at_builtin; refine wpList_be_sl rfl _ _ rfl G _ _ rfl (HBE4.out.alloc _) (some ⟨w4.heap.size, 0, none⟩) 1 [x] rfl (pe_one w4 x) HX1.out hes3 ?_; intro v6 w6 hbf6 hg6; have HBE6 : Hid (Be w w6 G v6 (es ++ [x])) := hbf6; clear hbf6 hg6)
                      | fail)
                    go_roundg (n - (r + 21))
                    case measure => omega
                    case rel =>
                      have hd21 : l.drop (r + 21) = t.drop (k + 1 + (j + 1) + 20) := by
                        rw [← HT.out, List.drop_drop]
                        congr 1
                        omega
                      refine ⟨r + 21, _, es ++ [x], rfl, rfl, by go_num, by omega, HBE6, hid ?_, hid ?_, hid ?_, ?_⟩
                      · rw [hd21]; exact HRB.out.step ht x _ HRF.out
                      · intro y hy
                        rcases List.mem_append.1 hy with hy | hy
                        · exact HWF.out y hy
                        · have : y = x := by simpa using hy
                          rw [this]; exact HXI.out
                      · intro y hy
                        rcases List.mem_append.1 hy with hy | hy
                        · exact HNMS.out y hy
                        · have : y = x := by simpa using hy
                          rw [this]; exact HXN.out
                      · rw [List.length_append]
                        simp only [List.length_cons, List.length_nil]
                        omega
                  · have h21i : (n : Int) - (r : Int) < 21 := by omega
                    have HNO : Hid (∀ u, okTr u → treeB u = l → False) := hid (HRB.out.none ht (short_doc H32.out HS1.out H00.out HS2.out (by rw [HTL.out]; omega)))
                    go_wp2
                    go_ret2
                    exact ⟨by rw [HG.out]; exact HBR.out, PostRD.no HNO.out⟩
                · have h0b : (ci == 0) = false := by simpa using h0
                  have H01 : Hid ((0 : UInt8) ∉ (t.drop (k + 1)).take (j + 1)) := hid (by
                    rw [take_snocB _ j c HCT.out]
                    intro hm
                    rcases List.mem_append.1 hm with hm | hm
                    · exact H00.out hm
                    · exact h0 (HC0.out.2 (List.mem_singleton.1 hm).symm))
                  clear h0
                  go_wp2
                  go_roundg (n + 1 - (r + 1))
                  case measure => omega
                  case rel => exact ⟨r + 1, j + 1, rfl, by go_num, by omega, by omega, .inr (by omega), HB2, HBX2, H01⟩
              · have hrlti : ¬ (r : Int) < (n : Int) := by omega
                have h21i : (n : Int) - (r : Int) < 21 := by omega
                have HS2 : Hid (j = (t.drop (k + 1)).length ∨ (t.drop (k + 1))[j]? = some 0) := hid (.inl (by rw [List.length_drop, HTL.out]; omega))
                have HNO : Hid (∀ u, okTr u → treeB u = l → False) := hid (HRB.out.none ht (short_doc H32.out HS1.out H00.out HS2.out (by rw [HTL.out]; omega)))
                go_wp2
                go_ret2
                exact ⟨by rw [HG.out]; exact HBR.out, PostRD.no HNO.out⟩
          · have h32b : (ci == 32) = false := by simpa using h32
            by_cases hbad : ci < 48 ∨ 55 < ci ∨ 1048576 < md
            · have HNO : Hid (∀ u, okTr u → treeB u = l → False) := hid (HRB.out.none ht (bad_digit H32.out HCT.out (fun e => h32 (HC32.out.2 e)) (by
                have := HCI.out
                rcases hbad with h | h | h
                · left; omega
                · right; left; omega
                · right; right; rw [← HMD.out]; exact h)))
              clear h32
              by_cases h48 : ci < 48
              · clear hbad
                go_wp2
                go_ret2
                exact ⟨by rw [HG.out]; exact HBR.out, PostRD.no HNO.out⟩
              · by_cases h55 : 55 < ci
                · clear hbad
                  go_wp2
                  go_ret2
                  exact ⟨by rw [HG.out]; exact HBR.out, PostRD.no HNO.out⟩
                · have hmb : 1048576 < md := by omega
                  clear hbad
                  go_wp2
                  go_ret2
                  exact ⟨by rw [HG.out]; exact HBR.out, PostRD.no HNO.out⟩
            · have h48 : ¬ ci < 48 := by omega
              have h55 : ¬ 55 < ci := by omega
              have hmb : ¬ 1048576 < md := by omega
              have HMD2 : Hid (md * 8 + (ci - 48) = oval (t.take (k + 1))) := hid (by rw [take_snocB t k c HCT.out, oval_snoc, ← HMD.out, HCI.out])
              have H321 : Hid ((32 : UInt8) ∉ t.take (k + 1)) := hid (by
                rw [take_snocB t k c HCT.out]
                intro hm
                rcases List.mem_append.1 hm with hm | hm
                · exact H32.out hm
                · exact h32 (HC32.out.2 (List.mem_singleton.1 hm).symm))
              have hQ0 : QM K md b0 (off + q) ci wr.drew := ⟨hck, hcell⟩
              have hfz : wr.drew.frozen? ⟨K, 0, none⟩ = false := frozen_of_row wr.drew K 0 _ 90 HBX1.out
              have HB1d : Hid (Below K wo wr.drew) := hid (below_drewH HB1.out 1)
              have HBXd : Hid (wr.drew.heap[K]? = some (.cells (erV ⟨md, [], z20⟩).toArray 90 (0, 0))) := HBX1
              clear h32 hbad
              go_wp2_with fail
              refine region_U (QM K md b0 (off + q) ci) 11 (by kernel_rfl) ?_
              generalize wr.drew = u0 at hQ0 hfz HB1d HBXd ⊢
              refine takeU (i := 0) (v := ?_) rfl (by kernel_rfl) (by kernel_rfl) (by kernel_rfl) (by kernel_rfl) (fun _ _ _ h => h) (Or.inl ⟨by rfl, ?_⟩) hQ0 ?_
              rotate_left
              · rintro w' ⟨m, b⟩; go_simp; rfl
              try simp only [Act.put, List.setIfInBounds_toArray, List.set_cons_zero, List.set_cons_succ]
              refine takeU (i := 1) (v := ?_) rfl (by kernel_rfl) (by kernel_rfl) (by kernel_rfl) (by kernel_rfl) (fun _ _ _ h => h) (Or.inl ⟨by rfl, ?_⟩) hQ0 ?_
              rotate_left
              · rintro w' ⟨m, b⟩; go_simp; rfl
              try simp only [Act.put, List.setIfInBounds_toArray, List.set_cons_zero, List.set_cons_succ]
              refine takeU (i := 2) (v := ?_) rfl (by kernel_rfl) (by kernel_rfl) (by kernel_rfl) (by kernel_rfl) (fun _ _ _ h => h) (Or.inl ⟨by rfl, ?_⟩) hQ0 ?_
              rotate_left
              · rintro w' ⟨m, b⟩; go_simp; rfl
              try simp only [Act.put, List.setIfInBounds_toArray, List.set_cons_zero, List.set_cons_succ]
              refine takeU (i := 3) (v := ?_) rfl (by kernel_rfl) (by kernel_rfl) (by kernel_rfl) (by kernel_rfl) (fun _ _ _ h => h) (Or.inl ⟨by rfl, ?_⟩) hQ0 ?_
              rotate_left
              · rintro w' ⟨m, b⟩; go_simp; rfl
              try simp only [Act.put, List.setIfInBounds_toArray, List.set_cons_zero, List.set_cons_succ]
              refine takeU (i := 4) (v := ?_) rfl (by kernel_rfl) (by kernel_rfl) (by kernel_rfl) (by kernel_rfl) (fun _ _ _ h => h) (Or.inl ⟨by rfl, ?_⟩) hQ0 ?_
              rotate_left
              · rintro w' ⟨m, b⟩; go_simp; rfl
              try simp only [Act.put, List.setIfInBounds_toArray, List.set_cons_zero, List.set_cons_succ]
              refine takeU (i := 5) (v := ?_) rfl (by kernel_rfl) (by kernel_rfl) (by kernel_rfl) (by kernel_rfl) (fun _ _ _ h => h) (Or.inl ⟨by rfl, ?_⟩) hQ0 ?_
              rotate_left
              · rintro w' ⟨m, b⟩; go_simp; rfl
              try simp only [Act.put, List.setIfInBounds_toArray, List.set_cons_zero, List.set_cons_succ]
              refine takeU (i := 6) (v := ?_) rfl (by kernel_rfl) (by kernel_rfl) (by kernel_rfl) (by kernel_rfl) (fun _ _ _ h => h) (Or.inl ⟨by rfl, ?_⟩) hQ0 ?_
              rotate_left
              · rintro w' ⟨m, b⟩; go_simp; rfl
              try simp only [Act.put, List.setIfInBounds_toArray, List.set_cons_zero, List.set_cons_succ]
              refine takeU (i := 7) (v := ?_) rfl (by kernel_rfl) (by kernel_rfl) (by kernel_rfl) (by kernel_rfl) (fun _ _ _ h => h) (Or.inl ⟨by rfl, ?_⟩) hQ0 ?_
              rotate_left
              · rintro w' ⟨m, b⟩; go_simp; rfl
              try simp only [Act.put, List.setIfInBounds_toArray, List.set_cons_zero, List.set_cons_succ]
              refine takeU (i := 8) (v := ?_) rfl (by kernel_rfl) (by kernel_rfl) (by kernel_rfl) (by kernel_rfl) (fun _ _ _ h => h) (Or.inl ⟨by rfl, ?_⟩) hQ0 ?_
              rotate_left
              · rintro w' ⟨m, b⟩; go_simp; rfl
              try simp only [Act.put, List.setIfInBounds_toArray, List.set_cons_zero, List.set_cons_succ]
              refine takeU (i := 9) (v := ?_) rfl (by kernel_rfl) (by kernel_rfl) (by kernel_rfl) (by kernel_rfl) (fun _ _ _ h => h) (Or.inl ⟨by rfl, ?_⟩) hQ0 ?_
              rotate_left
              · rintro w' ⟨m, b⟩; go_simp; rfl
              try simp only [Act.put, List.setIfInBounds_toArray, List.set_cons_zero, List.set_cons_succ]
              refine takeU (i := 10) (v := ?_) rfl (by kernel_rfl) (by kernel_rfl) (by kernel_rfl) (by kernel_rfl) (fun _ _ _ h => h) (Or.inl ⟨by rfl, ?_⟩) hQ0 ?_
              rotate_left
              · rintro w' ⟨m, b⟩; go_simp; rfl
              try simp only [Act.put, List.setIfInBounds_toArray, List.set_cons_zero, List.set_cons_succ]
              have hck2 := hQ0.m
              refine readyU1 (i := 11) (by kernel_rfl) (consU rfl (fun KK hKK => ?_))
              go_simp
              refine hKK.out _ _ (.inl rfl) ?_
              clear hKK KK
              try simp only [Act.put, List.setIfInBounds_toArray, List.set_cons_zero, List.set_cons_succ]
              refine doneU (by kernel_rfl) ?_ _
              obtain ⟨u1, HU1⟩ : ∃ u1, Hid (u0.setCell ⟨K, 0, none⟩ (.int .i64 (md * 8 + (ci - 48))) = u1) := ⟨_, rfl⟩
              have BU : Hid (u1.heap[K]? = some (.cells (erV ⟨md * 8 + (ci - 48), [], z20⟩).toArray 90 (0, 0))) := hid (by
                rw [← HU1.out, blk_set HBXd.out 0 (.int .i64 (md * 8 + (ci - 48)))]; rfl)
              have HBU : Hid (Below K wo u1) := hid (by rw [← HU1.out]; exact HB1d.out.setCell (Nat.le_refl _) _)
              have hwv : IntKind.i64.wrap (IntKind.i64.wrap (md * 8) + IntKind.i64.wrap (IntKind.u8.wrap (ci - 48))) = md * 8 + (ci - 48) := by
                rw [IntKind.wrap_i64, IntKind.wrap_i64, IntKind.wrap_i64, IntKind.wrap_u8]
                omega
              rw [hwv, HU1.out]
              clear hQ0 hfz hck2 hwv
              go_wp2
              go_roundg (n + 1 - (q + 1))
              case measure => omega
              case rel => exact ⟨q + 1, k + 1, md * 8 + (ci - 48), rfl, by go_num, by omega, by omega, by omega, by omega, by omega, HMD2, HBU, BU, H321⟩
        · have hqlti : ¬ (q : Int) < (n : Int) := by omega
          have HS1 : Hid (k = t.length ∨ t[k]? = some 32) := hid (.inl (by rw [HTL.out]; omega))
          go_wp2_with fail
          go_loopg [5] (n + 1 - (q + 1)) (fun g rv wq => ∃ (r j : Nat), g = n + 1 - r ∧ rv = .int .i64 r ∧ r ≤ q + 1 + j ∧ q + 1 + j ≤ r ∧ (r ≤ q + 1 ∨ r ≤ n) ∧ Hid (Below K wo wq) ∧ Hid (wq.heap[K]? = some (.cells (erV ⟨md, [], z20⟩).toArray 90 (0, 0))) ∧ Hid ((0 : UInt8) ∉ (t.drop (k + 1)).take j))
          case atStart => exact ⟨q + 1, 0, rfl, by go_num, Nat.le_refl _, Nat.le_refl _, .inl (Nat.le_refl _), HB1, HBX1, hid (by simp)⟩
          case round =>
            obtain ⟨r, j, hgr, rfl, hrj, hrj', hrn, HB2, HBX2, H00⟩ := hrel
            have hrq : q + 1 ≤ r := by omega
            have HBR : Hid (Below G w wr) := hid (HBO.out.below.trans (HB2.out.mono hGK))
            by_cases hrlt : r < n
            · exfalso
              omega
            · have hrlti : ¬ (r : Int) < (n : Int) := by omega
              have h21i : (n : Int) - (r : Int) < 21 := by omega
              have HS2 : Hid (j = (t.drop (k + 1)).length ∨ (t.drop (k + 1))[j]? = some 0) := hid (.inl (by rw [List.length_drop, HTL.out]; omega))
              have HNO : Hid (∀ u, okTr u → treeB u = l → False) := hid (HRB.out.none ht (short_doc H32.out HS1.out H00.out HS2.out (by rw [HTL.out]; omega)))
              go_wp2
              go_ret2
              exact ⟨by rw [HG.out]; exact HBR.out, PostRD.no HNO.out⟩
    · have hplti : ¬ (p : Int) < (n : Int) := by omega
      have HRE : Hid (Rb l es []) := hid (by have := HRB.out; rw [List.drop_eq_nil_of_le (by rw [HLL.out]; omega)] at this; exact this)
      obtain ⟨ne, HNE⟩ : ∃ m, Hid (es.length = m) := ⟨_, rfl⟩
      have hne : ne ≤ 1000 := by rw [← HNE.out]; omega
      obtain ⟨va, vc, hv⟩ : ∃ va vc, v = .slice va ne vc := by
        have ho := HBE.out.own
        rw [HNE.out] at ho
        exact owns_shape ho
      subst hv
      have HFRE : Hid (∀ p : Addr, va = some p → G ≤ p.block) := hid (fun p hp => ((HBE.out.pe (fun x hx => (HWF.out x hx).1) HNE.out).2 p hp).1)
      have HPE : Hid (Pe wr va vc es) := hid (HBE.out.pe (fun x hx => (HWF.out x hx).1) HNE.out).1
      have C20 : Hid (Calls Tryz.prog 40 #[.slice va ne vc] wr (PostWR es wr)) := hid (by
        rw [← HNE.out]
        exact writeTreeR_any va vc es HWF.out (by rw [HNE.out]; exact hne) wr HPE.out)
      clear HRB
      go_wp2_with fail
      refine C20.out.mono ?_
      rintro ev w2 ⟨hb2, hor⟩
      have HB2 : Hid (Below G w w2) := hid (HBE.out.below.trans (hb2.mono HBE.out.le))
      have HPE2 : Hid (Pe w2 va vc es) := hid (HPE.out.below hb2)
      clear hb2
      rcases hor with ⟨hok, a2, c2, rfl, hsl⟩ | ⟨hno, rfl⟩
      · have HOK : Hid (okL es) := hok
        have hcb := HCB.out w2 HB2.out
        obtain ⟨tb, HTB⟩ : ∃ t, Hid (treeB (srtE es) = t) := ⟨_, rfl⟩
        obtain ⟨TS, HTS⟩ : ∃ S : ByteArray, Hid (⟨tb.toArray⟩ = S) := ⟨_, rfl⟩
        obtain ⟨tl, HTLL⟩ : ∃ k, Hid (tb.length = k) := ⟨_, rfl⟩
        have hcx : (convert 26 9 (.slice a2 tl c2)).run Tryz.prog w2 = .ok (.string TS) w2 := by
          have := conv_str hsl
          rw [HTB.out, nums_len, bytesOf_nums, HTS.out, HTLL.out] at this
          exact this
        obtain ⟨eq, heq⟩ : ∃ b : Bool, (TS.toList == LS.toList) = b := ⟨_, rfl⟩
        have HEQ : Hid (eq = true ↔ treeB (srtE es) = l) := hid (by
          rw [← heq, ← HTS.out, ← HLS.out, Lib.toList_data, Lib.toList_data, HTB.out]
          simp)
        rw [HTB.out, HTLL.out]
        clear hok hsl
        cases eq with
        | true =>
          have FIN : Hid (PostRD w.heap.size l (.returned (.tuple #[.slice va ne vc, .bool true])) w2) := hid ⟨va, vc, es, true, by rw [HNE.out], fun _ => ⟨(fun p hp => by rw [HG.out]; exact (HFRE.out p hp)), HPE2.out, HWF.out, HOK.out, HEQ.out.1 rfl⟩, fun u h1 h2 h3 h4 => ⟨rfl, HRE.out.done u h1 h4⟩⟩
          go_wp2
          go_ret2
          exact ⟨by rw [HG.out]; exact HB2.out, FIN.out⟩
        | false =>
          have FIN : Hid (PostRD w.heap.size l (.returned (.tuple #[.slice none 0 0, .bool false])) w2) := hid ⟨none, 0, [], false, rfl, (fun h => by cases h), fun u h1 h2 h3 h4 => by
            have he := HRE.out.done u h1 h4
            have := HEQ.out.2 (by rw [he, h3]; exact h4)
            cases this⟩
          go_wp2
          go_ret2
          exact ⟨by rw [HG.out]; exact HB2.out, FIN.out⟩
      · have FIN : Hid (PostRD w.heap.size l (.returned (.tuple #[.slice none 0 0, .bool false])) w2) := hid ⟨none, 0, [], false, rfl, (fun h => by cases h), fun u h1 h2 h3 h4 => by
          have he := HRE.out.done u h1 h4
          exact absurd (by rw [he]; exact h2) hno⟩
        clear hno
        go_wp2
        go_ret2
        exact ⟨by rw [HG.out]; exact HB2.out, FIN.out⟩
end Go.Proofs.YtikmbjfambjmaaaGreatDoor
namespace Go.Proofs.YtikmbjfambjmaaaGreatDoor
open Go.RowKit
set_option linter.unusedVariables false
set_option linter.unusedSimpArgs false
theorem Tryz.results6 : Tryz.f6.results = #[.cell 2 23, .tmp 3] := by kernel_rfl
theorem zero31 (w : World) : (zeroValue 23).run Tryz.prog w = .ok (.agg (row .u8 z20).toArray) w := by kernel_rfl
set_option maxRecDepth 20000 in
set_option maxHeartbeats 2000000 in
theorem refID_any (k : Int) (a : Option Addr) (cap : Nat) (zs : List Int) (w : World) (hl : zs.length ≤ 300000) (hz : IsB zs) (hS : Sl w a cap zs) :
    Calls Tryz.prog 6 #[.agg #[.int .i64 k, .slice a zs.length cap]] w fun e w' => e = .returned (.tuple #[.agg (row .u8 (idZ k zs)).toArray, .int .i64 (errE k zs.length)]) ∧ Below w.heap.size w w' := by
  obtain ⟨zr, HZ⟩ : ∃ zr : Array Value, Hid (zr = (row .u8 z20).toArray) := ⟨_, rfl⟩
  have hz25 := zero31
  rw [← HZ.out] at hz25
  obtain ⟨n, HN⟩ : ∃ n, Hid (zs.length = n) := ⟨_, rfl⟩
  obtain ⟨fr, HE⟩ : ∃ fr, Hid (fr = idZ k zs) := ⟨_, rfl⟩
  have hfl : fr.length = 20 := by rw [HE.out]; exact idZ_len _ _
  have hi25 : (Tryz.prog.info? 23).map (·.size) = some (row .u8 fr).length := by rw [row_len, hfl]; exact Tryz.size23
  have T2 : Hid ((Tryz.prog.info? 23).map (·.size) = some (row .u8 fr).toArray.size) := hid (by rw [row_size, hfl]; exact Tryz.size23)
  have T3 : Hid ((row .u8 fr).toArray.all (·.oneCell') = true) := all_oneCell_toArray (row_one _ _)
  obtain ⟨G, HG⟩ : ∃ G, Hid (w.heap.size = G) := ⟨_, rfl⟩
  obtain ⟨w0, HW0⟩ : ∃ w0, Hid ((w.alloc (.cells #[.int .i64 k, .slice a n cap] 35)).alloc (.cells zr 23) = w0) := ⟨_, rfl⟩
  have hs0 : w0.heap.size = G + 2 := by rw [← HW0.out, ← HG.out]; simp
  have hc0 : w0.cell? ⟨G, 0, none⟩ = some (.int .i64 k) := by rw [← HW0.out, ← HG.out]; simp
  have hc1 : w0.cell? ⟨G, 1, none⟩ = some (.slice a n cap) := by rw [← HW0.out, ← HG.out]; simp
  have HR0 : Hid (w0.heap[G + 1]? = some (.cells (row .u8 z20).toArray 23 (0, 0))) := hid (by
    have := heap_alloc_new (w.alloc (.cells #[.int .i64 k, .slice a n cap] 35)) (.cells zr 23)
    rw [HW0.out, HZ.out] at this
    rw [← HG.out]; simpa using this)
  have HB0 : Hid (Below G w w0) := hid (by rw [← HW0.out, ← HG.out]; exact ((Below.refl _ w).alloc (Nat.le_refl _) _).alloc (by simp) _)
  have HEN : Hid (Calls Tryz.prog 11 #[.agg #[.int .i64 k, .slice a n cap]] w0 (PostR k zs w0)) := by
    rw [← HN.out]
    exact refEncode_any k a cap zs w0 hl (hS.below (by rw [HG.out]; exact HB0.out))
  replace hs0 := hid hs0
  rw [HN.out]
  go_enter Tryz.func6, Tryz.ntmps6
  go_wp2_with fail
  rw [HG.out, HW0.out]
  clear hS
  have hl' : Hid (zs.length ≤ 300000) := hl
  clear hl
  refine HEN.out.mono ?_
  rintro ev w1 ⟨hb1, ⟨he, rfl⟩ | ⟨he, g, c1, rfl, h1, h2, h3, h4⟩⟩
  · have hb1s := hb1.size
    rw [hs0.out] at hb1 hb1s
    have HR1 : Hid (w1.heap[G + 1]? = some (.cells (row .u8 z20).toArray 23 (0, 0))) := (hb1.block _ (by omega)).trans HR0.out
    have HB1 : Hid (Below G w w1) := HB0.out.trans (hb1.mono (by omega))
    obtain ⟨er, HER⟩ : ∃ er, Hid (er = errE k zs.length) := ⟨_, rfl⟩
    have HV : Hid (errE k n = er) := hid (by rw [← HN.out, HER.out])
    rw [← HER.out]
    have hfr : fr = z20 := by rw [HE.out]; unfold idZ; rw [if_neg he]
    have T1 : Hid (w1.there (G + 1) 0 (row .u8 fr).toArray.size) := hid (by rw [row_size, hfl]; exact there_row HR1.out rfl)
    have T4 : Hid (w1.there (G + 1) 0 (row .u8 fr).length) := hid (by rw [row_len, hfl]; exact there_row HR1.out rfl)
    obtain rfl : zr = (row .u8 fr).toArray := by rw [HZ.out, hfr]
    have her : ¬ er = 0 := by rw [HER.out]; exact he
    have her2 : (er == 0) = false := by simpa using her
    clear hb1 hfr he hc0 hc1
    go_wp2_with (refine wpList_store_mid rfl 23 _ _ rfl (G + 1) 0 (row .u8 fr).toArray rfl rfl T1.out T2.out T3.out ?_)
    exact bodyPost_ret (v := .tuple #[.agg (row .u8 fr).toArray, .int .i64 er]) (results_mid2 Tryz.results6 _ _ (G + 1) _ _ rfl (World.rangeAt_setCells_same w1 (G + 1) 0 _ T4.out) Tryz.underlying23 rfl hi25) rfl ⟨by rw [HV.out, HE.out], by rw [HG.out]; exact below_setCells (by omega) _ _ _ _ HB1.out⟩
  · have hb1s := hb1.size
    rw [hs0.out] at hb1 hb1s h1
    have HR1 : Hid (w1.heap[G + 1]? = some (.cells (row .u8 z20).toArray 23 (0, 0))) := (hb1.block _ (by omega)).trans HR0.out
    have HB1 : Hid (Below G w w1) := HB0.out.trans (hb1.mono (by omega))
    have HV : Hid (errE k n = 0) := hid (by rw [← HN.out]; exact he)
    have hfr : Hid (fr = sha (encZ k zs)) := hid (by rw [HE.out]; unfold idZ; rw [if_pos he])
    have HSU : Hid (Calls Tryz.prog 12 #[.slice (some ⟨g, 0, none⟩) (encZ k zs).length c1] w1 fun e w' => e = .returned (.agg (row .u8 (sha (encZ k zs))).toArray) ∧ Below w1.heap.size w1 w') :=
      ref_any (some ⟨g, 0, none⟩) c1 (encZ k zs) w1 (by
        have := encZ_len k zs hl'.out
        have := (fits_ok k _ he).2
        omega) (encZ_isB k zs hz) (fun _ => ⟨g, 0, rfl, h2, h3⟩)
    obtain ⟨L, HL⟩ : ∃ L, Hid (L = (encZ k zs).length) := ⟨_, rfl⟩
    rw [← HL.out, ← hfr.out] at HSU
    rw [← HL.out]
    clear hb1 he hc0 hc1 h3 h4
    go_wp2_with fail
    refine HSU.out.mono ?_
    rintro ev w2 ⟨rfl, hb2⟩
    have HR2 : Hid (w2.heap[G + 1]? = some (.cells (row .u8 z20).toArray 23 (0, 0))) := (hb2.block _ (by omega)).trans HR1.out
    have HB2 : Hid (Below G w w2) := HB1.out.trans (hb2.mono (by omega))
    have T1 : Hid (w2.there (G + 1) 0 (row .u8 fr).toArray.size) := hid (by rw [row_size, hfl]; exact there_row HR2.out rfl)
    have T4 : Hid (w2.there (G + 1) 0 (row .u8 fr).length) := hid (by rw [row_len, hfl]; exact there_row HR2.out rfl)
    clear hb2
    go_wp2_with (refine wpList_store_mid rfl 23 _ _ rfl (G + 1) 0 (row .u8 fr).toArray rfl rfl T1.out T2.out T3.out ?_)
    exact bodyPost_ret (v := .tuple #[.agg (row .u8 fr).toArray, .int .i64 0]) (results_mid2 Tryz.results6 _ _ (G + 1) _ _ rfl (World.rangeAt_setCells_same w2 (G + 1) 0 _ T4.out) Tryz.underlying23 rfl hi25) rfl ⟨by rw [HV.out, HE.out], by rw [HG.out]; exact below_setCells (by omega) _ _ _ _ HB2.out⟩
end Go.Proofs.YtikmbjfambjmaaaGreatDoor
