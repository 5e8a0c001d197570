import Derived.Test.YtbpdielmdhhdfaaGreatDoorMu31
import Derived.Test.YtbpdielmdhhdfaaGreatDoorMu32
/- The document's 'ReadTree': plain facts. -/
namespace Go.Proofs.YtbpdielmdhhdfaaGreatDoor
open Go.RowKit
variable [Inhabited Er] [Inhabited En]
set_option linter.unusedVariables false
set_option linter.unusedSectionVars false
set_option linter.unusedSimpArgs false
/-- Octal digits as a number. -/
def oval (l : List UInt8) : Int := l.foldl (fun acc c => acc * 8 + ((c.toNat : Int) - 48)) 0
theorem oval_snoc (l : List UInt8) (c : UInt8) : oval (l ++ [c]) = oval l * 8 + ((c.toNat : Int) - 48) := by simp [oval]
theorem oct_vals (m : Int) (h : okM m) : oval (octB m) = m ∧ (∀ k, oval ((octB m).take k) ≤ 1048576) ∧ ∀ c ∈ octB m, 48 ≤ c.toNat ∧ c.toNat ≤ 55 := by
  rcases h with rfl | rfl | rfl | rfl
  all_goals
    refine ⟨by decide +kernel, fun k => ?_, by decide +kernel⟩
    match k with
    | 0 => decide +kernel
    | 1 => decide +kernel
    | 2 => decide +kernel
    | 3 => decide +kernel
    | 4 => decide +kernel
    | 5 => decide +kernel
    | k + 6 => rw [List.take_of_length_le (by have := octB_len 16384; have := octB_len 33188; have := octB_len 33261; have := octB_len 40960; omega)]; decide +kernel
/-- Where a sign comes up first. -/
theorem stop_le (a b : List UInt8) (c : UInt8) (k : Nat) (h : c ∉ (a ++ c :: b).take k) : k ≤ a.length := by
  apply Classical.byContradiction
  intro hn
  apply h
  have : (a ++ c :: b).take k = a ++ (c :: b).take (k - a.length) := by rw [List.take_append, List.take_of_length_le (by omega)]
  rw [this, show k - a.length = (k - a.length - 1) + 1 by omega, List.take_succ_cons]
  simp
theorem stop_at (a b : List UInt8) (c : UInt8) (h : c ∉ a) (k : Nat) (h1 : c ∉ (a ++ c :: b).take k) (h2 : k = (a ++ c :: b).length ∨ (a ++ c :: b)[k]? = some c) : k = a.length := by
  have hle := stop_le a b c k h1
  rcases h2 with h2 | h2
  · rw [h2] at hle
    simp at hle
    omega
  · apply Classical.byContradiction
    intro hn
    rw [List.getElem?_append_left (by omega)] at h2
    exact h (List.mem_of_getElem? h2)
/-- An entry that can be one. -/
def okY (y : Er) : Prop := okM y.mode ∧ okE y.name ∧ y.id.length = 20 ∧ ∀ n ∈ y.id, 0 ≤ n ∧ n < 256
theorem erB_split (y : Er) (r : List UInt8) : erB y ++ r = octB y.mode ++ 32 :: (y.name ++ 0 :: (Lib.bytesOf y.id ++ r)) := by simp [erB]
theorem Rb.none {l : List UInt8} {es : List Er} {t : List UInt8} (h : Rb l es t) (hne : t ≠ []) (hno : ∀ y r, okY y → t = erB y ++ r → False) (u : List Er) (hu : okTr u) (e : treeB u = l) : False := by
  obtain ⟨u2, h1, h2, h3⟩ := h u hu e
  match u2, h2, h3 with
  | [], _, h3 => exact hne (by rw [← h3]; rfl)
  | y :: u3, h2, h3 =>
    rw [treeB_cons] at h3
    have hy := h2.1 y (by simp)
    have hy2 := h2.2 y (by simp)
    exact hno y (treeB u3) ⟨hy2.1, hy2.2, hy.1, hy.2⟩ h3.symm
/-- A digit that is none. -/
theorem bad_digit {t : List UInt8} {k : Nat} {c : UInt8} (h32 : (32 : UInt8) ∉ t.take k) (hc : t[k]? = some c) (hne : c ≠ 32) (hb : c.toNat < 48 ∨ 55 < c.toNat ∨ 1048576 < oval (t.take k)) : ∀ y r, okY y → t = erB y ++ r → False := by
  intro y r hy ht
  rw [erB_split] at ht
  subst ht
  have hle := stop_le _ _ _ k h32
  obtain ⟨v1, v2, v3⟩ := oct_vals y.mode hy.1
  have hlt : k < (octB y.mode).length := by
    apply Classical.byContradiction
    intro hn
    have : k = (octB y.mode).length := by omega
    subst this
    rw [List.getElem?_append_right (Nat.le_refl _), Nat.sub_self] at hc
    exact hne (by simpa using hc.symm)
  rw [List.getElem?_append_left hlt] at hc
  have := v3 c (List.mem_of_getElem? hc)
  rcases hb with h | h | h
  · omega
  · omega
  · rw [List.take_append_of_le_length hle] at h
    have := v2 k
    omega
/-- An entry, read. -/
theorem rf_doc {t : List UInt8} {k j : Nat} (h32 : (32 : UInt8) ∉ t.take k) (hs1 : k = t.length ∨ t[k]? = some 32) (h0 : (0 : UInt8) ∉ (t.drop (k + 1)).take j) (hs2 : j = (t.drop (k + 1)).length ∨ (t.drop (k + 1))[j]? = some 0) :
    ∀ y r, okY y → t = erB y ++ r → k = (octB y.mode).length ∧ j = y.name.length ∧ oval (t.take k) = y.mode ∧ (t.drop (k + 1)).take j = y.name ∧ t.drop (k + 1 + (j + 1)) = Lib.bytesOf y.id ++ r := by
  intro y r hy ht
  rw [erB_split] at ht
  subst ht
  have hk := stop_at _ _ 32 (fun hm => (octB_ne _ _ hm).1 rfl) k h32 hs1
  have hd : (octB y.mode ++ 32 :: (y.name ++ 0 :: (Lib.bytesOf y.id ++ r))).drop (k + 1) = y.name ++ 0 :: (Lib.bytesOf y.id ++ r) := by
    rw [hk, List.drop_append, List.drop_eq_nil_of_le (by omega), show (octB y.mode).length + 1 - (octB y.mode).length = 1 by omega]
    rfl
  rw [hd] at h0 hs2
  have hj := stop_at _ _ 0 (fun hm => (hy.2.1.2.2.2.2.2 _ hm).2 rfl) j h0 hs2
  refine ⟨hk, hj, ?_, ?_, ?_⟩
  · rw [hk, List.take_left' rfl]
    exact (oct_vals y.mode hy.1).1
  · rw [hd, hj, List.take_left' rfl]
  · rw [← List.drop_drop, hd, hj, List.drop_append, List.drop_eq_nil_of_le (by omega), show y.name.length + 1 - y.name.length = 1 by omega]
    rfl
theorem short_doc {t : List UInt8} {k j : Nat} (h32 : (32 : UInt8) ∉ t.take k) (hs1 : k = t.length ∨ t[k]? = some 32) (h0 : (0 : UInt8) ∉ (t.drop (k + 1)).take j) (hs2 : j = (t.drop (k + 1)).length ∨ (t.drop (k + 1))[j]? = some 0) (hlen : t.length < k + 1 + j + 21) : ∀ y r, okY y → t = erB y ++ r → False := by
  intro y r hy ht
  obtain ⟨e1, e2, _⟩ := rf_doc h32 hs1 h0 hs2 y r hy ht
  have := congrArg List.length ht
  rw [List.length_append, erB_len, hy.2.2.1] at this
  omega
theorem entry_doc {t : List UInt8} {k j : Nat} (h32 : (32 : UInt8) ∉ t.take k) (hs1 : k = t.length ∨ t[k]? = some 32) (h0 : (0 : UInt8) ∉ (t.drop (k + 1)).take j) (hs2 : j = (t.drop (k + 1)).length ∨ (t.drop (k + 1))[j]? = some 0) :
    Rf t ⟨oval (t.take k), (t.drop (k + 1)).take j, nums ((t.drop (k + 1 + (j + 1))).take 20)⟩ (t.drop (k + 1 + (j + 1) + 20)) := by
  intro y r hm he hl hb ht
  obtain ⟨e1, e2, e3, e4, e5⟩ := rf_doc h32 hs1 h0 hs2 y r ⟨hm, he, hl, hb⟩ ht
  have hbl : (Lib.bytesOf y.id).length = 20 := by rw [Lib.bytesOf_length, hl]
  refine ⟨?_, ?_⟩
  · rw [e3, e4, e5, List.take_left' hbl, nums_bytes y.id hb]
  · rw [← List.drop_drop, e5, List.drop_left' hbl]
/-- What the document's reader gives. -/
def PostRD (l : List UInt8) (e : Ending) (w' : World) : Prop := ∃ a cap ed b, e = .returned (.tuple #[.slice a ed.length cap, .bool b]) ∧ (b = true → Pe w' a cap ed ∧ WfE ed ∧ okL ed ∧ treeB (srtE ed) = l) ∧ ∀ u, okTr u → okL u → srtE u = u → treeB u = l → b = true ∧ ed = u
theorem PostRD.no {l : List UInt8} {w' : World} (h : ∀ u, okTr u → treeB u = l → False) : PostRD l (.returned (.tuple #[.slice none 0 0, .bool false])) w' :=
  ⟨none, 0, [], false, rfl, (fun h => by cases h), fun u h1 _ _ h4 => absurd (h u h1 h4) (fun h => h)⟩
theorem blk_set {w : World} {K t : Nat} {R : List Value} (h : w.heap[K]? = some (.cells R.toArray t (0, 0))) (o : Nat) (v : Value) : (w.setCell ⟨K, o, none⟩ v).heap[K]? = some (.cells (R.set o v).toArray t (0, 0)) :=
  heap_setCells_same K t [v] o w R h
end Go.Proofs.YtbpdielmdhhdfaaGreatDoor
/- The document's 'ReadTree': the walk. -/
namespace Go.Proofs.YtbpdielmdhhdfaaGreatDoor
open Go.RowKit
variable [Inhabited Er] [Inhabited En]
set_option linter.unusedVariables false
set_option linter.unusedSectionVars false
set_option linter.unusedSimpArgs false
/-- The address behind the first so many bytes. -/
def adB (a : Option Addr) (cap j : Nat) : Option Addr := if cap = j then a else a.map (·.add (j * 1))
theorem Sl.mid {w : World} {a : Option Addr} {cap : Nat} {zs : List Int} (h : Sl w a cap zs) (i j : Nat) (hij : i ≤ j) (hj : j ≤ zs.length) : Sl w (adB a cap i) (cap - i) ((zs.drop i).take (j - i)) :=
  ⟨by rw [List.length_take, List.length_drop]; have := h.capl; omega, fun h0 => by
    rw [List.length_take, List.length_drop] at h0
    obtain ⟨b, off, e1, e2, e3⟩ := h.at_ (by omega)
    subst e1
    have hc := h.capl
    refine ⟨b, off + i, by unfold adB; rw [if_neg (by omega), Option.map_some, addr_add, Nat.mul_one], e2, fun q hq => ?_⟩
    rw [List.length_take, List.length_drop] at hq
    have := e3 (i + q) (by omega)
    rw [Nat.add_assoc, this]
    congr 2
    rw [List.getD_eq_getElem?_getD, List.getD_eq_getElem?_getD, List.getElem?_take, if_pos (by omega), List.getElem?_drop], fun h2 => by
    have : a = none := by
      unfold adB at h2
      split at h2
      · exact h2
      · cases a with
        | none => rfl
        | some p => cases h2
    have := h.nil this
    omega⟩
theorem elem23 : Tryz.prog.underlying 23 = some (.slice (Tryz.prog.elem 23)) := by kernel_rfl
theorem sizeB (w : World) : (sizeOf (Tryz.prog.elem 23)).run Tryz.prog w = .ok 1 w := by kernel_rfl
theorem slB (a : Option Addr) (n cap i j : Nat) (hij : i ≤ j) (hj : j ≤ cap) (w : World) : (Instr.slice 23 (.slice a n cap) (some (.int .i64 i)) (some (.int .i64 j)) none).run Tryz.prog w = .ok (.slice (adB a cap i) (j - i) (cap - i)) w := by
  rw [run_slice_lh w 23 a n cap elem23 .i64 .i64 i j (by omega) (by omega) (by omega), sizeB, Result.andThen_ok, sliced]
  rfl
structure QM (K : Nat) (md : Int) (b0 o : Nat) (c : Int) (W : World) : Prop where
  m : W.cell? ⟨K, 0, none⟩ = some (.int .i64 md)
  b : W.cell? ⟨b0, o, none⟩ = some (.int .u8 c)
theorem nums_getD (l : List UInt8) (i : Nat) (c : UInt8) (h : l[i]? = some c) : (nums l).getD i 0 = (c.toNat : Int) := by
  simp [nums, List.getD_eq_getElem?_getD, h]
theorem take_snocB (t : List UInt8) (k : Nat) (c : UInt8) (h : t[k]? = some c) : t.take (k + 1) = t.take k ++ [c] := by
  rw [List.take_add_one, h]; rfl
set_option maxRecDepth 20000 in
set_option maxHeartbeats 16000000 in
theorem readTreeR_any (a : Option Addr) (cap : Nat) (zs : List Int) (hl : zs.length ≤ 20000) (hz : IsB zs) (w : World) (hS : Sl w a cap zs) :
    Calls Tryz.prog 52 #[.slice a zs.length cap] w fun e w' => Below w.heap.size w w' ∧ PostRD (Lib.bytesOf zs) e w' := by
  obtain ⟨n, HN⟩ : ∃ n, Hid (zs.length = n) := ⟨_, rfl⟩
  have hnn : n ≤ 20000 := by rw [← HN.out]; exact hl
  obtain ⟨l, HL⟩ : ∃ l, Hid (Lib.bytesOf zs = l) := ⟨_, rfl⟩
  have HLL : Hid (l.length = n) := hid (by rw [← HL.out, Lib.bytesOf_length]; exact HN.out)
  have HZN : Hid (zs = nums l) := hid (by rw [← HL.out]; exact (nums_bytesOf zs hz).symm)
  obtain ⟨G, HG⟩ : ∃ G, Hid (w.heap.size = G) := ⟨_, rfl⟩
  obtain ⟨zr, HZ⟩ : ∃ zr : Array Value, Hid (zr = (erV ⟨0, [], z20⟩).toArray) := ⟨_, rfl⟩
  have hz103 : ∀ w : World, (zeroValue 103).run Tryz.prog w = .ok (.agg zr) w := fun w => by rw [HZ.out]; exact zero103 w
  have HSL : Hid (∀ W, Below G w W → Sl W a cap zs) := fun W hW => hS.below (by rw [HG.out]; exact hW)
  have HSB : Hid (0 < n → ∃ b off, a = some ⟨b, off, none⟩ ∧ b < G) := fun h0 => by
    obtain ⟨b, off, e1, e2, _⟩ := hS.at_ (by rw [HN.out]; exact h0)
    exact ⟨b, off, e1, by rw [← HG.out]; exact e2⟩
  have hcapn : n ≤ cap := by rw [← HN.out]; exact hS.capl
  have HGS : Hid (G ≤ w.heap.size) := hid (by rw [HG.out]; exact Nat.le_refl _)
  obtain ⟨LS, HLS⟩ : ∃ S : ByteArray, Hid (⟨l.toArray⟩ = S) := ⟨_, rfl⟩
  have HCB : Hid (∀ W, Below G w W → (convert 23 9 (.slice a n cap)).run Tryz.prog W = .ok (.string LS) W) := fun W hW => by
    have := conv_str (HSL.out W hW)
    rw [HL.out, HN.out, HLS.out] at this
    exact this
  have HE0 : Hid (Be w w G (.slice none 0 0) []) := hid (be_nil w G (by rw [HG.out]; exact Nat.le_refl _))
  have HRB0 : Hid (Rb l [] (l.drop 0)) := hid (by rw [List.drop_zero]; exact Rb.start l)
  rw [HN.out, HL.out]
  clear hS
  go_enter Tryz.func52, Tryz.ntmps52
  go_wp2_with fail
  go_loopg [4, 5] n (fun g u pv wr => ∃ (p : Nat) (v : Value) (es : List Er), v = u ∧ g = n - p ∧ pv = .int .i64 p ∧ p ≤ n ∧ Hid (Be w wr G v es) ∧ Hid (Rb l es (l.drop p)) ∧ Hid (WfE es) ∧ Hid (∀ x ∈ es, x.name.length ≤ 20000) ∧ es.length * 21 ≤ p)
  case atStart => exact ⟨0, _, [], rfl, rfl, rfl, Nat.zero_le _, HE0, HRB0, hid (fun x hx => by cases hx), hid (fun x hx => by cases hx), by simp⟩
  case round =>
    obtain ⟨p, v, es, hv, hgp, rfl, hpn, HBE, HRB, HWF, HNMS, hcnt⟩ := hrel
    subst hv
    by_cases hplt : p < n
    · have hplti : (p : Int) < (n : Int) := by omega
      obtain ⟨b0, off, hae, hb0G⟩ := HSB.out (by omega)
      subst hae
      obtain ⟨t, HT⟩ : ∃ t, Hid (l.drop p = t) := ⟨_, rfl⟩
      rw [HT.out] at HRB
      have HTL : Hid (t.length = n - p) := hid (by rw [← HT.out, List.length_drop, HLL.out])
      have ht : t ≠ [] := fun h => by have := HTL.out; rw [h] at this; simp at this; omega
      have HCL : Hid (∀ W, Below G w W → ∀ i c, l[i]? = some c → W.cell? ⟨b0, off + i, none⟩ = some (.int .u8 (c.toNat : Int))) := fun W hW i c hc => by
        have hi : i < l.length := (List.getElem?_eq_some_iff.1 hc).1
        obtain ⟨b', off', e1, e2, e3⟩ := (HSL.out W hW).at_ (by rw [HN.out, ← HLL.out]; omega)
        cases e1
        have := e3 i (by rw [HN.out, ← HLL.out]; exact hi)
        rw [this, HZN.out, nums_getD l i c hc]
      obtain ⟨wo, HWO⟩ : ∃ wo, Hid (wr = wo) := ⟨_, rfl⟩
      obtain ⟨K, HK⟩ : ∃ K, Hid (wo.heap.size = K) := ⟨_, rfl⟩
      have HBO : Hid (Be w wo G v es) := hid (by rw [← HWO.out]; exact HBE.out)
      have hGK : G ≤ K := by rw [← HK.out]; exact HBO.out.le
      have HK2 : Hid (wr.heap.size = K) := hid (by rw [HWO.out]; exact HK.out)
      have HAL : Hid (Below K wo (wr.alloc (.cells zr 103))) := hid (by rw [HWO.out, ← HK.out]; exact (Below.refl _ wo).alloc (Nat.le_refl _) _)
      have HAB : Hid ((wr.alloc (.cells zr 103)).heap[K]? = some (.cells (erV ⟨0, [], z20⟩).toArray 103 (0, 0))) := hid (by rw [← HK2.out, heap_alloc_new wr (.cells zr 103), HZ.out])
      clear HBE
      go_wp2_with fail
      rw [HK2.out]
      go_loopg [5] (n + 1 - p) (fun g qv wq => ∃ (q k : Nat) (md : Int), g = n + 1 - q ∧ qv = .int .i64 q ∧ q ≤ p + k ∧ p + k ≤ q ∧ q ≤ n ∧ 0 ≤ md ∧ md ≤ 8388615 ∧ Hid (md = oval (t.take k)) ∧ Hid (Below K wo wq) ∧ Hid (wq.heap[K]? = some (.cells (erV ⟨md, [], z20⟩).toArray 103 (0, 0))) ∧ Hid ((32 : UInt8) ∉ t.take k))
      case atStart => exact ⟨p, 0, 0, rfl, rfl, Nat.le_refl _, Nat.le_refl _, hpn, by decide, by decide, hid rfl, HAL, HAB, hid (by simp)⟩
      case round =>
        obtain ⟨q, k, md, hgq, rfl, hqk, hqk', hqn, hmd0, hmd1, HMD, HB1, HBX1, H32⟩ := hrel
        have HBR : Hid (Below G w wr) := hid (HBO.out.below.trans (HB1.out.mono hGK))
        by_cases hqlt : q < n
        · have hqlti : (q : Int) < (n : Int) := by omega
          obtain ⟨c, hc⟩ : ∃ c, l[q]? = some c := ⟨_, List.getElem?_eq_getElem (by rw [HLL.out]; exact hqlt)⟩
          obtain ⟨ci, HCI⟩ : ∃ ci : Int, Hid ((c.toNat : Int) = ci) := ⟨_, rfl⟩
          have hci : 0 ≤ ci ∧ ci < 256 := by rw [← HCI.out]; have := c.toNat_lt; omega
          have hcell : wr.cell? ⟨b0, off + q, none⟩ = some (.int .u8 ci) := by rw [← HCI.out]; exact HCL.out wr HBR.out q c hc
          have HCT : Hid (t[k]? = some c) := hid (by rw [← HT.out, List.getElem?_drop, ← hc]; congr 1; omega)
          have HC32 : Hid (ci = 32 ↔ c = 32) := hid (by
            rw [← HCI.out]
            constructor
            · intro h; exact UInt8.toNat_inj.1 (by show c.toNat = 32; omega)
            · intro h; rw [h]; rfl)
          have hck : wr.cell? ⟨K, 0, none⟩ = some (.int .i64 md) := by rw [cell_of_row wr K 0 _ 103 _ HBX1.out]; rfl
          clear hc
          by_cases h32 : ci = 32
          · have HS1 : Hid (k = t.length ∨ t[k]? = some 32) := hid (.inr (by rw [HCT.out, HC32.out.1 h32]))
            subst h32
            clear hci hck
            go_wp2_with fail
            go_loopg [5] (n + 1 - (q + 1)) (fun g rv wq => ∃ (r j : Nat), g = n + 1 - r ∧ rv = .int .i64 r ∧ r ≤ q + 1 + j ∧ q + 1 + j ≤ r ∧ (r ≤ q + 1 ∨ r ≤ n) ∧ Hid (Below K wo wq) ∧ Hid (wq.heap[K]? = some (.cells (erV ⟨md, [], z20⟩).toArray 103 (0, 0))) ∧ Hid ((0 : UInt8) ∉ (t.drop (k + 1)).take j))
            case atStart => exact ⟨q + 1, 0, rfl, by go_num, Nat.le_refl _, Nat.le_refl _, .inl (Nat.le_refl _), HB1, HBX1, hid (by simp)⟩
            case round =>
              obtain ⟨r, j, hgr, rfl, hrj, hrj', hrn, HB2, HBX2, H00⟩ := hrel
              have hrq : q + 1 ≤ r := by omega
              have HBR : Hid (Below G w wr) := hid (HBO.out.below.trans (HB2.out.mono hGK))
              by_cases hrlt : r < n
              · have hrlti : (r : Int) < (n : Int) := by omega
                obtain ⟨c, hc⟩ : ∃ c, l[r]? = some c := ⟨_, List.getElem?_eq_getElem (by rw [HLL.out]; exact hrlt)⟩
                obtain ⟨ci, HCI⟩ : ∃ ci : Int, Hid ((c.toNat : Int) = ci) := ⟨_, rfl⟩
                have hcell : wr.cell? ⟨b0, off + r, none⟩ = some (.int .u8 ci) := by rw [← HCI.out]; exact HCL.out wr HBR.out r c hc
                have HCT : Hid ((t.drop (k + 1))[j]? = some c) := hid (by rw [← HT.out, List.getElem?_drop, List.getElem?_drop, ← hc]; congr 1; omega)
                have HC0 : Hid (ci = 0 ↔ c = 0) := hid (by
                  rw [← HCI.out]
                  constructor
                  · intro h; exact UInt8.toNat_inj.1 (by show c.toNat = 0; omega)
                  · intro h; rw [h]; rfl)
                clear hc
                by_cases h0 : ci = 0
                · have HS2 : Hid (j = (t.drop (k + 1)).length ∨ (t.drop (k + 1))[j]? = some 0) := hid (.inr (by rw [HCT.out, HC0.out.1 h0]))
                  subst h0
                  by_cases h21 : r + 21 ≤ n
                  · have h21i : ¬ (n : Int) - (r : Int) < 21 := by omega
                    obtain ⟨nm, HNM⟩ : ∃ s, Hid ((t.drop (k + 1)).take j = s) := ⟨_, rfl⟩
                    obtain ⟨ib, HIB⟩ : ∃ s, Hid (nums ((t.drop (k + 1 + (j + 1))).take 20) = s) := ⟨_, rfl⟩
                    obtain ⟨x, HX⟩ : ∃ x : Er, Hid (⟨oval (t.take k), nm, ib⟩ = x) := ⟨_, rfl⟩
                    have HRF : Hid (Rf t x (t.drop (k + 1 + (j + 1) + 20))) := hid (by
                      have := entry_doc (t := t) (k := k) (j := j) H32.out HS1.out H00.out HS2.out
                      rw [HNM.out, HIB.out, HX.out] at this
                      exact this)
                    have hib : ib.length = 20 := by rw [← HIB.out, nums_len, List.length_take, List.length_drop, HTL.out]; omega
                    have HXI : Hid (x.id.length = 20 ∧ ∀ n ∈ x.id, 0 ≤ n ∧ n < 256) := hid (by rw [← HX.out]; exact ⟨hib, by rw [← HIB.out]; exact fun n hn => nums_isB _ n hn⟩)
                    have HXN : Hid (x.name.length ≤ 20000) := hid (by rw [← HX.out, ← HNM.out]; show ((t.drop (k + 1)).take j).length ≤ 20000; rw [List.length_take, List.length_drop, HTL.out]; omega)
                    obtain ⟨S, HS⟩ : ∃ S : ByteArray, Hid (⟨nm.toArray⟩ = S) := ⟨_, rfl⟩
                    obtain ⟨fr, HFR⟩ : ∃ fr, Hid (q + 1 = fr) := ⟨_, rfl⟩
                    obtain ⟨an, HAN⟩ : ∃ a', Hid (adB (some ⟨b0, off, none⟩) cap fr = a') := ⟨_, rfl⟩
                    obtain ⟨cn, HCN⟩ : ∃ c', Hid (cap - fr = c') := ⟨_, rfl⟩
                    obtain ⟨ln, HLN⟩ : ∃ c', Hid (r - fr = c') := ⟨_, rfl⟩
                    have hfrr : fr ≤ r := by rw [← HFR.out]; exact hrq
                    have hsl1 : ∀ W, (Instr.slice 23 (.slice (some ⟨b0, off, none⟩) n cap) (some (.int .i64 ((q : Int) + 1))) (some (.int .i64 r)) none).run Tryz.prog W = .ok (.slice an ln cn) W := fun W => by
                      rw [← HAN.out, ← HCN.out, ← HLN.out]
                      have h := slB (some ⟨b0, off, none⟩) n cap fr r hfrr (by omega) W
                      rw [show ((fr : Nat) : Int) = (q : Int) + 1 by have := HFR.out; omega] at h
                      exact h
                    have HDN : Hid ((zs.drop fr).take (r - fr) = nums nm) := hid (by
                      rw [HZN.out, ← HNM.out, ← HT.out, ← HFR.out]
                      simp only [nums, ← List.map_drop, ← List.map_take, List.drop_drop]
                      congr 1
                      rw [show r - (q + 1) = j by omega, show p + (k + 1) = q + 1 by omega])
                    have HLNN : Hid (ln = nm.length) := hid (by rw [← HLN.out, ← nums_len nm, ← HDN.out, List.length_take, List.length_drop, HN.out]; omega)
                    have HBw2 : Hid (Below G w wr) := hid (HBO.out.below.trans (HB2.out.mono hGK))
                    have hcv : ∀ W, Below G w W → (convert 23 9 (.slice an ln cn)).run Tryz.prog W = .ok (.string S) W := fun W hW => by
                      have h := conv_str ((HSL.out W hW).mid fr r hfrr (by rw [HN.out]; omega))
                      rw [HDN.out, HAN.out, HCN.out, nums_len, ← HLNN.out, bytesOf_nums, HS.out] at h
                      exact h
                    have hcv1 := hcv _ HBw2.out
                    clear hcv
                    obtain ⟨R0, HR0⟩ : ∃ R, Hid (erV ⟨md, [], z20⟩ = R) := ⟨_, rfl⟩
                    have BX0 : Hid (wr.heap[K]? = some (.cells R0.toArray 103 (0, 0))) := hid (by rw [← HR0.out]; exact HBX2.out)
                    have HR0L : Hid (R0.length = 22) := hid (by rw [← HR0.out]; exact erV_len _ rfl)
                    have hc1 : wr.cell? ⟨K, 1, none⟩ = some (.string ⟨#[]⟩) := by
                      rw [cell_of_row wr K 1 _ 103 _ BX0.out, ← HR0.out]; rfl
                    have hf1 : wr.frozen? ⟨K, 1, none⟩ = false := frozen_of_row wr K 1 _ 103 BX0.out
                    obtain ⟨w3, HW3⟩ : ∃ w3, Hid (wr.setCell ⟨K, 1, none⟩ (.string S) = w3) := ⟨_, rfl⟩
                    have B3 : Hid (w3.heap[K]? = some (.cells (erV ⟨md, nm, z20⟩).toArray 103 (0, 0))) := hid (by
                      rw [← HW3.out, blk_set BX0.out 1 (.string S), ← HR0.out, ← HS.out]; rfl)
                    have HB3 : Hid (Below K wo w3) := hid (by rw [← HW3.out]; exact HB2.out.setCell (Nat.le_refl _) _)
                    go_wp2_with fail
                    rw [HW3.out]
                    obtain ⟨am, HAM⟩ : ∃ a', Hid (adB (some ⟨b0, off, none⟩) cap (r + 1) = a') := ⟨_, rfl⟩
                    obtain ⟨cm, HCM⟩ : ∃ c', Hid (cap - (r + 1) = c') := ⟨_, rfl⟩
                    have hsl2 : ∀ W, (Instr.slice 23 (.slice (some ⟨b0, off, none⟩) n cap) (some (.int .i64 ((r : Int) + 1))) (some (.int .i64 ((r : Int) + 21))) none).run Tryz.prog W = .ok (.slice am 20 cm) W := fun W => by
                      rw [← HAM.out, ← HCM.out]
                      have h := slB (some ⟨b0, off, none⟩) n cap (r + 1) (r + 21) (by omega) (by omega) W
                      rw [show r + 21 - (r + 1) = 20 by omega] at h
                      exact h
                    have HDI : Hid ((zs.drop (r + 1)).take 20 = ib) := hid (by
                      rw [HZN.out, ← HIB.out, ← HT.out]
                      simp only [nums, ← List.map_drop, ← List.map_take, List.drop_drop]
                      rw [show p + (k + 1 + (j + 1)) = r + 1 by omega])
                    have HBw3 : Hid (Below G w w3.drew) := hid (below_drewH (HBO.out.below.trans (HB3.out.mono hGK)) 1)
                    have HSM : Hid (Sl w3.drew am cm ib) := hid (by
                      have h := (HSL.out w3.drew HBw3.out).mid (r + 1) (r + 21) (by omega) (by rw [HN.out]; omega)
                      rw [show r + 21 - (r + 1) = 20 by omega, HDI.out, HAM.out, HCM.out] at h
                      exact h)
                    obtain ⟨b3, off3, hae3, hbm, hat3⟩ := HSM.out.at_ (by omega)
                    subst hae3
                    obtain ⟨w4, HW4⟩ : ∃ w4, Hid (w3.drew.setCells K 2 (ib.map (Value.int .u8)) = w4) := ⟨_, rfl⟩
                    have hcp : ∀ ty, (Builtin.copy_ #[23, 23] ty #[.slice (some ⟨K, 2, none⟩) 20 20, .slice (some ⟨b3, off3, none⟩) 20 cm]).run Tryz.prog w3.drew = .ok (.int .i64 20) w4 := fun ty => by
                      have B3d : w3.drew.heap[K]? = some (.cells (erV ⟨md, nm, z20⟩).toArray 103 (0, 0)) := B3.out
                      have h := run_copy_cells (P := Tryz.prog) w3.drew 23 23 ty 5 K 2 20 20 ⟨b3, off3, none⟩ 20 cm (ib.map (Value.int .u8)) Tryz.underlying23 Tryz.size5 (by rw [List.length_map, hib]; rfl) (fun q u hq => by
                          rw [List.getElem?_map] at hq
                          cases hcq : ib[q]? with
                          | none => rw [hcq] at hq; cases hq
                          | some y =>
                            rw [hcq] at hq; cases hq
                            have hlt := (List.getElem?_eq_some_iff.1 hcq).1
                            have := hat3 q hlt
                            rw [addr_add]
                            simpa [List.getD_eq_getElem?_getD, hcq] using this)
                        (fun q hq => by
                          rw [List.length_map, hib] at hq
                          rw [cell_of_row _ K (2 + q) _ 103 _ B3d, List.getElem?_toArray, List.getElem?_eq_getElem (by rw [erV_len _ rfl]; omega)]
                          rfl) (fun q hq => frozen_of_row _ K _ _ 103 B3d) (ints_oneCell .u8 ib)
                      rw [List.length_map, hib, HW4.out] at h
                      exact h
                    obtain ⟨R1, HR1⟩ : ∃ R, Hid (erV x = R) := ⟨_, rfl⟩
                    have B4 : Hid (w4.heap[K]? = some (.cells R1.toArray 103 (0, 0))) := hid (by
                      have h1 := heap_setCells_same K 103 (ib.map (Value.int .u8)) 2 w3.drew (erV ⟨md, nm, z20⟩) B3.out
                      rw [HW4.out] at h1
                      rw [h1, ← HR1.out, ← HX.out, ← HMD.out]
                      congr 2
                      have := setAt_mid (ib.map (Value.int .u8)) (row .u8 z20) [Value.int .i64 md, Value.string ⟨nm.toArray⟩] [] (by rw [List.length_map, hib]; rfl)
                      rw [List.append_nil, List.append_nil] at this
                      exact (congrArg List.toArray this).trans (by rw [HMD.out]; rfl))
                    have HB4 : Hid (Below K wo w4) := hid (by rw [← HW4.out]; exact below_setCells (Nat.le_refl _) _ _ _ _ (below_drewH HB3.out 1))
                    have HBE4 : Hid (Be w w4 G v es) := hid (HBO.out.carry (by rw [HK.out]; exact HB4.out))
                    have HR1L : Hid (R1.length = 22) := hid (by rw [← HR1.out]; exact erV_len x HXI.out.1)
                    have hi103 : (Tryz.prog.info? 103).map (·.size) = some R1.length := by rw [HR1L.out]; exact size103
                    have L4 : Hid (w4.rangeAt K 0 R1) := hid (range_row B4.out)
                    have hw1 : IntKind.i64.wrap ((r : Int) + 1) = (r : Int) + 1 := by rw [IntKind.wrap_i64]; omega
                    have hw2 : IntKind.i64.wrap ((r : Int) + 21) = (r : Int) + 21 := by rw [IntKind.wrap_i64]; omega
                    refine wp_region_held_drew (S := fun _ => True) (by kernel_rfl) trivial (fun hHeld => ?_)
                    refine takeL (i := 0) (v := ?_) rfl (by kernel_rfl) (by kernel_rfl) (by kernel_rfl) (fun _ _ _ h => h) (Or.inl ⟨by rfl, ?_⟩) hHeld ?_
                    rotate_left
                    · rintro w' _; go_simp; rfl
                    try simp only [Act.put, List.setIfInBounds_toArray, List.set_cons_zero, List.set_cons_succ]
                    refine takeL (i := 1) (v := ?_) rfl (by kernel_rfl) (by kernel_rfl) (by kernel_rfl) (fun _ _ _ h => h) (Or.inl ⟨by rfl, ?_⟩) hHeld ?_
                    rotate_left
                    · rintro w' _; go_simp; rfl
                    try simp only [Act.put, List.setIfInBounds_toArray, List.set_cons_zero, List.set_cons_succ]
                    refine takeL (i := 2) (v := ?_) rfl (by kernel_rfl) (by kernel_rfl) (by kernel_rfl) (fun _ _ _ h => h) (Or.inl ⟨by rfl, ?_⟩) hHeld ?_
                    rotate_left
                    · rintro w' _; go_simp; rfl
                    try simp only [Act.put, List.setIfInBounds_toArray, List.set_cons_zero, List.set_cons_succ]
                    refine takeL (i := 3) (v := ?_) rfl (by kernel_rfl) (by kernel_rfl) (by kernel_rfl) (fun _ _ _ h => h) (Or.inl ⟨by rfl, ?_⟩) hHeld ?_
                    rotate_left
                    · rintro w' _; go_simp; rfl
                    try simp only [Act.put, List.setIfInBounds_toArray, List.set_cons_zero, List.set_cons_succ]
                    refine takeL (i := 4) (v := ?_) rfl (by kernel_rfl) (by kernel_rfl) (by kernel_rfl) (fun _ _ _ h => h) (Or.inl ⟨by rfl, ?_⟩) hHeld ?_
                    rotate_left
                    · rintro w' _; go_simp; rfl
                    try simp only [Act.put, List.setIfInBounds_toArray, List.set_cons_zero, List.set_cons_succ]
                    refine takeL (i := 5) (v := ?_) rfl (by kernel_rfl) (by kernel_rfl) (by kernel_rfl) (fun _ _ _ h => h) (Or.inl ⟨by rfl, ?_⟩) hHeld ?_
                    rotate_left
                    · rintro w' _; go_simp; rfl
                    try simp only [Act.put, List.setIfInBounds_toArray, List.set_cons_zero, List.set_cons_succ]
                    refine takeL (i := 6) (v := ?_) rfl (by kernel_rfl) (by kernel_rfl) (by kernel_rfl) (fun _ _ _ h => h) (Or.inl ⟨by rfl, ?_⟩) hHeld ?_
                    rotate_left
                    · rintro w' _; go_simp; rfl
                    try simp only [Act.put, List.setIfInBounds_toArray, List.set_cons_zero, List.set_cons_succ]
                    refine takeL (i := 7) (v := ?_) rfl (by kernel_rfl) (by kernel_rfl) (by kernel_rfl) (fun _ _ _ h => h) (Or.inl ⟨by rfl, ?_⟩) hHeld ?_
                    rotate_left
                    · rintro w' _; go_simp; rfl
                    try simp only [Act.put, List.setIfInBounds_toArray, List.set_cons_zero, List.set_cons_succ]
                    clear hw1 hw2
                    refine wpAnyH_ready (rs := [8]) (by kernel_rfl) (by simp) ?_
                    refine consL rfl (fun KK hKK => ?_) AllReadyH.nil
                    refine step_exec (by rfl) (.int .i64 20) (w' := w4) (by unfold execOp; simp only [resolve, invoke, builtin, Sem.run_bind, Sem.run_pure, Result.andThen_ok, List.map_toArray, List.map_cons, List.map_nil]; exact (congrArg (fun r => Result.andThen r _) (hcp _)).trans rfl) ?_
                    refine hKK.out _ _ trivial (fun hHeld => ?_)
                    clear hKK KK hcp
                    try simp only [Act.put, List.setIfInBounds_toArray, List.set_cons_zero, List.set_cons_succ]
                    refine wpAnyH_done (by kernel_rfl) ?_ _
                    clear hHeld hsl1 hsl2 hcv1 hc1 hf1
                    have hes3 : es.length + 1 ≤ 3000 := by omega
                    have HX1 : Hid (∀ y ∈ [x], y.id.length = 20) := fun y hy => by
                      have : y = x := by simpa using hy
                      rw [this]; exact HXI.out.1
                    go_wp2_with (first
                      | refine wpList_load_mid rfl 103 _ rfl K 0 rfl R1 _ L4.out Tryz.underlying103 rfl hi103 ?_
                      | refine wpList_buildS rfl 52 1 _ rfl (.agg R1.toArray) _ rfl (by rw [← HR1.out]; exact run_build103 x HXI.out.1 _) ?_
                      | (at_builtin; refine wpList_be_sl rfl _ _ rfl G _ _ rfl (HBE4.out.alloc _) (some ⟨w4.heap.size, 0, none⟩) 1 [x] rfl (pe_one w4 x) HX1.out hes3 ?_; intro v6 w6 hbf6 hg6; have HBE6 : Hid (Be w w6 G v6 (es ++ [x])) := hbf6; clear hbf6 hg6)
                      | fail)
                    go_roundg (n - (r + 21))
                    case measure => omega
                    case rel =>
                      have hd21 : l.drop (r + 21) = t.drop (k + 1 + (j + 1) + 20) := by
                        rw [← HT.out, List.drop_drop]
                        congr 1
                        omega
                      refine ⟨r + 21, _, es ++ [x], rfl, rfl, by go_num, by omega, HBE6, hid ?_, hid ?_, hid ?_, ?_⟩
                      · rw [hd21]; exact HRB.out.step ht x _ HRF.out
                      · intro y hy
                        rcases List.mem_append.1 hy with hy | hy
                        · exact HWF.out y hy
                        · have : y = x := by simpa using hy
                          rw [this]; exact HXI.out
                      · intro y hy
                        rcases List.mem_append.1 hy with hy | hy
                        · exact HNMS.out y hy
                        · have : y = x := by simpa using hy
                          rw [this]; exact HXN.out
                      · rw [List.length_append]
                        simp only [List.length_cons, List.length_nil]
                        omega
                  · have h21i : (n : Int) - (r : Int) < 21 := by omega
                    have HNO : Hid (∀ u, okTr u → treeB u = l → False) := hid (HRB.out.none ht (short_doc H32.out HS1.out H00.out HS2.out (by rw [HTL.out]; omega)))
                    go_wp2
                    go_ret2
                    exact ⟨by rw [HG.out]; exact HBR.out, PostRD.no HNO.out⟩
                · have h0b : (ci == 0) = false := by simpa using h0
                  have H01 : Hid ((0 : UInt8) ∉ (t.drop (k + 1)).take (j + 1)) := hid (by
                    rw [take_snocB _ j c HCT.out]
                    intro hm
                    rcases List.mem_append.1 hm with hm | hm
                    · exact H00.out hm
                    · exact h0 (HC0.out.2 (List.mem_singleton.1 hm).symm))
                  clear h0
                  go_wp2
                  go_roundg (n + 1 - (r + 1))
                  case measure => omega
                  case rel => exact ⟨r + 1, j + 1, rfl, by go_num, by omega, by omega, .inr (by omega), HB2, HBX2, H01⟩
              · have hrlti : ¬ (r : Int) < (n : Int) := by omega
                have h21i : (n : Int) - (r : Int) < 21 := by omega
                have HS2 : Hid (j = (t.drop (k + 1)).length ∨ (t.drop (k + 1))[j]? = some 0) := hid (.inl (by rw [List.length_drop, HTL.out]; omega))
                have HNO : Hid (∀ u, okTr u → treeB u = l → False) := hid (HRB.out.none ht (short_doc H32.out HS1.out H00.out HS2.out (by rw [HTL.out]; omega)))
                go_wp2
                go_ret2
                exact ⟨by rw [HG.out]; exact HBR.out, PostRD.no HNO.out⟩
          · have h32b : (ci == 32) = false := by simpa using h32
            by_cases hbad : ci < 48 ∨ 55 < ci ∨ 1048576 < md
            · have HNO : Hid (∀ u, okTr u → treeB u = l → False) := hid (HRB.out.none ht (bad_digit H32.out HCT.out (fun e => h32 (HC32.out.2 e)) (by
                have := HCI.out
                rcases hbad with h | h | h
                · left; omega
                · right; left; omega
                · right; right; rw [← HMD.out]; exact h)))
              clear h32
              by_cases h48 : ci < 48
              · clear hbad
                go_wp2
                go_ret2
                exact ⟨by rw [HG.out]; exact HBR.out, PostRD.no HNO.out⟩
              · by_cases h55 : 55 < ci
                · clear hbad
                  go_wp2
                  go_ret2
                  exact ⟨by rw [HG.out]; exact HBR.out, PostRD.no HNO.out⟩
                · have hmb : 1048576 < md := by omega
                  clear hbad
                  go_wp2
                  go_ret2
                  exact ⟨by rw [HG.out]; exact HBR.out, PostRD.no HNO.out⟩
            · have h48 : ¬ ci < 48 := by omega
              have h55 : ¬ 55 < ci := by omega
              have hmb : ¬ 1048576 < md := by omega
              have HMD2 : Hid (md * 8 + (ci - 48) = oval (t.take (k + 1))) := hid (by rw [take_snocB t k c HCT.out, oval_snoc, ← HMD.out, HCI.out])
              have H321 : Hid ((32 : UInt8) ∉ t.take (k + 1)) := hid (by
                rw [take_snocB t k c HCT.out]
                intro hm
                rcases List.mem_append.1 hm with hm | hm
                · exact H32.out hm
                · exact h32 (HC32.out.2 (List.mem_singleton.1 hm).symm))
              have hQ0 : QM K md b0 (off + q) ci wr.drew := ⟨hck, hcell⟩
              have hfz : wr.drew.frozen? ⟨K, 0, none⟩ = false := frozen_of_row wr.drew K 0 _ 103 HBX1.out
              have HB1d : Hid (Below K wo wr.drew) := hid (below_drewH HB1.out 1)
              have HBXd : Hid (wr.drew.heap[K]? = some (.cells (erV ⟨md, [], z20⟩).toArray 103 (0, 0))) := HBX1
              clear h32 hbad
              go_wp2_with fail
              refine region_U (QM K md b0 (off + q) ci) 11 (by kernel_rfl) ?_
              generalize wr.drew = u0 at hQ0 hfz HB1d HBXd ⊢
              refine takeU (i := 0) (v := ?_) rfl (by kernel_rfl) (by kernel_rfl) (by kernel_rfl) (by kernel_rfl) (fun _ _ _ h => h) (Or.inl ⟨by rfl, ?_⟩) hQ0 ?_
              rotate_left
              · rintro w' ⟨m, b⟩; go_simp; rfl
              try simp only [Act.put, List.setIfInBounds_toArray, List.set_cons_zero, List.set_cons_succ]
              refine takeU (i := 1) (v := ?_) rfl (by kernel_rfl) (by kernel_rfl) (by kernel_rfl) (by kernel_rfl) (fun _ _ _ h => h) (Or.inl ⟨by rfl, ?_⟩) hQ0 ?_
              rotate_left
              · rintro w' ⟨m, b⟩; go_simp; rfl
              try simp only [Act.put, List.setIfInBounds_toArray, List.set_cons_zero, List.set_cons_succ]
              refine takeU (i := 2) (v := ?_) rfl (by kernel_rfl) (by kernel_rfl) (by kernel_rfl) (by kernel_rfl) (fun _ _ _ h => h) (Or.inl ⟨by rfl, ?_⟩) hQ0 ?_
              rotate_left
              · rintro w' ⟨m, b⟩; go_simp; rfl
              try simp only [Act.put, List.setIfInBounds_toArray, List.set_cons_zero, List.set_cons_succ]
              refine takeU (i := 3) (v := ?_) rfl (by kernel_rfl) (by kernel_rfl) (by kernel_rfl) (by kernel_rfl) (fun _ _ _ h => h) (Or.inl ⟨by rfl, ?_⟩) hQ0 ?_
              rotate_left
              · rintro w' ⟨m, b⟩; go_simp; rfl
              try simp only [Act.put, List.setIfInBounds_toArray, List.set_cons_zero, List.set_cons_succ]
              refine takeU (i := 4) (v := ?_) rfl (by kernel_rfl) (by kernel_rfl) (by kernel_rfl) (by kernel_rfl) (fun _ _ _ h => h) (Or.inl ⟨by rfl, ?_⟩) hQ0 ?_
              rotate_left
              · rintro w' ⟨m, b⟩; go_simp; rfl
              try simp only [Act.put, List.setIfInBounds_toArray, List.set_cons_zero, List.set_cons_succ]
              refine takeU (i := 5) (v := ?_) rfl (by kernel_rfl) (by kernel_rfl) (by kernel_rfl) (by kernel_rfl) (fun _ _ _ h => h) (Or.inl ⟨by rfl, ?_⟩) hQ0 ?_
              rotate_left
              · rintro w' ⟨m, b⟩; go_simp; rfl
              try simp only [Act.put, List.setIfInBounds_toArray, List.set_cons_zero, List.set_cons_succ]
              refine takeU (i := 6) (v := ?_) rfl (by kernel_rfl) (by kernel_rfl) (by kernel_rfl) (by kernel_rfl) (fun _ _ _ h => h) (Or.inl ⟨by rfl, ?_⟩) hQ0 ?_
              rotate_left
              · rintro w' ⟨m, b⟩; go_simp; rfl
              try simp only [Act.put, List.setIfInBounds_toArray, List.set_cons_zero, List.set_cons_succ]
              refine takeU (i := 7) (v := ?_) rfl (by kernel_rfl) (by kernel_rfl) (by kernel_rfl) (by kernel_rfl) (fun _ _ _ h => h) (Or.inl ⟨by rfl, ?_⟩) hQ0 ?_
              rotate_left
              · rintro w' ⟨m, b⟩; go_simp; rfl
              try simp only [Act.put, List.setIfInBounds_toArray, List.set_cons_zero, List.set_cons_succ]
              refine takeU (i := 8) (v := ?_) rfl (by kernel_rfl) (by kernel_rfl) (by kernel_rfl) (by kernel_rfl) (fun _ _ _ h => h) (Or.inl ⟨by rfl, ?_⟩) hQ0 ?_
              rotate_left
              · rintro w' ⟨m, b⟩; go_simp; rfl
              try simp only [Act.put, List.setIfInBounds_toArray, List.set_cons_zero, List.set_cons_succ]
              refine takeU (i := 9) (v := ?_) rfl (by kernel_rfl) (by kernel_rfl) (by kernel_rfl) (by kernel_rfl) (fun _ _ _ h => h) (Or.inl ⟨by rfl, ?_⟩) hQ0 ?_
              rotate_left
              · rintro w' ⟨m, b⟩; go_simp; rfl
              try simp only [Act.put, List.setIfInBounds_toArray, List.set_cons_zero, List.set_cons_succ]
              refine takeU (i := 10) (v := ?_) rfl (by kernel_rfl) (by kernel_rfl) (by kernel_rfl) (by kernel_rfl) (fun _ _ _ h => h) (Or.inl ⟨by rfl, ?_⟩) hQ0 ?_
              rotate_left
              · rintro w' ⟨m, b⟩; go_simp; rfl
              try simp only [Act.put, List.setIfInBounds_toArray, List.set_cons_zero, List.set_cons_succ]
              have hck2 := hQ0.m
              refine readyU1 (i := 11) (by kernel_rfl) (consU rfl (fun KK hKK => ?_))
              go_simp
              refine hKK.out _ _ (.inl rfl) ?_
              clear hKK KK
              try simp only [Act.put, List.setIfInBounds_toArray, List.set_cons_zero, List.set_cons_succ]
              refine doneU (by kernel_rfl) ?_ _
              obtain ⟨u1, HU1⟩ : ∃ u1, Hid (u0.setCell ⟨K, 0, none⟩ (.int .i64 (md * 8 + (ci - 48))) = u1) := ⟨_, rfl⟩
              have BU : Hid (u1.heap[K]? = some (.cells (erV ⟨md * 8 + (ci - 48), [], z20⟩).toArray 103 (0, 0))) := hid (by
                rw [← HU1.out, blk_set HBXd.out 0 (.int .i64 (md * 8 + (ci - 48)))]; rfl)
              have HBU : Hid (Below K wo u1) := hid (by rw [← HU1.out]; exact HB1d.out.setCell (Nat.le_refl _) _)
              have hwv : IntKind.i64.wrap (IntKind.i64.wrap (md * 8) + IntKind.i64.wrap (IntKind.u8.wrap (ci - 48))) = md * 8 + (ci - 48) := by
                rw [IntKind.wrap_i64, IntKind.wrap_i64, IntKind.wrap_i64, IntKind.wrap_u8]
                omega
              rw [hwv, HU1.out]
              clear hQ0 hfz hck2 hwv
              go_wp2
              go_roundg (n + 1 - (q + 1))
              case measure => omega
              case rel => exact ⟨q + 1, k + 1, md * 8 + (ci - 48), rfl, by go_num, by omega, by omega, by omega, by omega, by omega, HMD2, HBU, BU, H321⟩
        · have hqlti : ¬ (q : Int) < (n : Int) := by omega
          have HS1 : Hid (k = t.length ∨ t[k]? = some 32) := hid (.inl (by rw [HTL.out]; omega))
          go_wp2_with fail
          go_loopg [5] (n + 1 - (q + 1)) (fun g rv wq => ∃ (r j : Nat), g = n + 1 - r ∧ rv = .int .i64 r ∧ r ≤ q + 1 + j ∧ q + 1 + j ≤ r ∧ (r ≤ q + 1 ∨ r ≤ n) ∧ Hid (Below K wo wq) ∧ Hid (wq.heap[K]? = some (.cells (erV ⟨md, [], z20⟩).toArray 103 (0, 0))) ∧ Hid ((0 : UInt8) ∉ (t.drop (k + 1)).take j))
          case atStart => exact ⟨q + 1, 0, rfl, by go_num, Nat.le_refl _, Nat.le_refl _, .inl (Nat.le_refl _), HB1, HBX1, hid (by simp)⟩
          case round =>
            obtain ⟨r, j, hgr, rfl, hrj, hrj', hrn, HB2, HBX2, H00⟩ := hrel
            have hrq : q + 1 ≤ r := by omega
            have HBR : Hid (Below G w wr) := hid (HBO.out.below.trans (HB2.out.mono hGK))
            by_cases hrlt : r < n
            · exfalso
              omega
            · have hrlti : ¬ (r : Int) < (n : Int) := by omega
              have h21i : (n : Int) - (r : Int) < 21 := by omega
              have HS2 : Hid (j = (t.drop (k + 1)).length ∨ (t.drop (k + 1))[j]? = some 0) := hid (.inl (by rw [List.length_drop, HTL.out]; omega))
              have HNO : Hid (∀ u, okTr u → treeB u = l → False) := hid (HRB.out.none ht (short_doc H32.out HS1.out H00.out HS2.out (by rw [HTL.out]; omega)))
              go_wp2
              go_ret2
              exact ⟨by rw [HG.out]; exact HBR.out, PostRD.no HNO.out⟩
    · have hplti : ¬ (p : Int) < (n : Int) := by omega
      have HRE : Hid (Rb l es []) := hid (by have := HRB.out; rw [List.drop_eq_nil_of_le (by rw [HLL.out]; omega)] at this; exact this)
      obtain ⟨ne, HNE⟩ : ∃ m, Hid (es.length = m) := ⟨_, rfl⟩
      have hne : ne ≤ 1000 := by rw [← HNE.out]; omega
      obtain ⟨va, vc, hv⟩ : ∃ va vc, v = .slice va ne vc := by
        have ho := HBE.out.own
        rw [HNE.out] at ho
        exact owns_shape ho
      subst hv
      have HPE : Hid (Pe wr va vc es) := hid (HBE.out.pe (fun x hx => (HWF.out x hx).1) HNE.out).1
      have C20 : Hid (Calls Tryz.prog 20 #[.slice va ne vc] wr (PostWR es wr)) := hid (by
        rw [← HNE.out]
        exact writeTreeR_any va vc es HWF.out (by rw [HNE.out]; exact hne) wr HPE.out)
      clear HRB
      go_wp2_with fail
      refine C20.out.mono ?_
      rintro ev w2 ⟨hb2, hor⟩
      have HB2 : Hid (Below G w w2) := hid (HBE.out.below.trans (hb2.mono HBE.out.le))
      have HPE2 : Hid (Pe w2 va vc es) := hid (HPE.out.below hb2)
      clear hb2
      rcases hor with ⟨hok, a2, c2, rfl, hsl⟩ | ⟨hno, rfl⟩
      · have HOK : Hid (okL es) := hok
        have hcb := HCB.out w2 HB2.out
        obtain ⟨tb, HTB⟩ : ∃ t, Hid (treeB (srtE es) = t) := ⟨_, rfl⟩
        obtain ⟨TS, HTS⟩ : ∃ S : ByteArray, Hid (⟨tb.toArray⟩ = S) := ⟨_, rfl⟩
        obtain ⟨tl, HTLL⟩ : ∃ k, Hid (tb.length = k) := ⟨_, rfl⟩
        have hcx : (convert 23 9 (.slice a2 tl c2)).run Tryz.prog w2 = .ok (.string TS) w2 := by
          have := conv_str hsl
          rw [HTB.out, nums_len, bytesOf_nums, HTS.out, HTLL.out] at this
          exact this
        obtain ⟨eq, heq⟩ : ∃ b : Bool, (TS.toList == LS.toList) = b := ⟨_, rfl⟩
        have HEQ : Hid (eq = true ↔ treeB (srtE es) = l) := hid (by
          rw [← heq, ← HTS.out, ← HLS.out, Lib.toList_data, Lib.toList_data, HTB.out]
          simp)
        rw [HTB.out, HTLL.out]
        clear hok hsl
        cases eq with
        | true =>
          have FIN : Hid (PostRD l (.returned (.tuple #[.slice va ne vc, .bool true])) w2) := hid ⟨va, vc, es, true, by rw [HNE.out], fun _ => ⟨HPE2.out, HWF.out, HOK.out, HEQ.out.1 rfl⟩, fun u h1 h2 h3 h4 => ⟨rfl, HRE.out.done u h1 h4⟩⟩
          go_wp2
          go_ret2
          exact ⟨by rw [HG.out]; exact HB2.out, FIN.out⟩
        | false =>
          have FIN : Hid (PostRD l (.returned (.tuple #[.slice none 0 0, .bool false])) w2) := hid ⟨none, 0, [], false, rfl, (fun h => by cases h), fun u h1 h2 h3 h4 => by
            have he := HRE.out.done u h1 h4
            have := HEQ.out.2 (by rw [he, h3]; exact h4)
            cases this⟩
          go_wp2
          go_ret2
          exact ⟨by rw [HG.out]; exact HB2.out, FIN.out⟩
      · have FIN : Hid (PostRD l (.returned (.tuple #[.slice none 0 0, .bool false])) w2) := hid ⟨none, 0, [], false, rfl, (fun h => by cases h), fun u h1 h2 h3 h4 => by
          have he := HRE.out.done u h1 h4
          exact absurd (by rw [he]; exact h2) hno⟩
        clear hno
        go_wp2
        go_ret2
        exact ⟨by rw [HG.out]; exact HB2.out, FIN.out⟩
end Go.Proofs.YtbpdielmdhhdfaaGreatDoor
/- Package object: 'entriesOf': the walk. -/
namespace Go.Proofs.YtbpdielmdhhdfaaGreatDoor
open Go.RowKit
variable [Inhabited Er] [Inhabited En]
set_option linter.unusedVariables false
set_option linter.unusedSectionVars false
set_option linter.unusedSimpArgs false
/-- What is read of bytes. -/
def PostEn (l : List UInt8) (w : World) (e : Ending) (w' : World) : Prop := ∃ a cap es, e = .returned (.slice a es.length cap) ∧ (∀ p : Addr, a = some p → w.heap.size ≤ p.block) ∧ Pe w' a cap es ∧ WfE es ∧ es.length ≤ 1000 ∧ (∀ x ∈ es, x.name.length ≤ 20000) ∧ ∀ u, okTr u → treeB u = l → es = u
theorem Bf.below_store {w0 w : World} {B : Nat} {v : Value} {es : List Er} (h : Bf w0 w B v es) {w' : World} (hb : Below w.heap.size w w') : Bf w0 w' B v es := h.carry hb
set_option maxRecDepth 20000 in
set_option maxHeartbeats 4000000 in
theorem entriesOf_any (l : List UInt8) (hl : l.length ≤ 20000) (w : World) (he : Ers w) (hm : Mx w) :
    Calls Tryz.prog 98 #[.string ⟨l.toArray⟩] w fun e w' => Below w.heap.size w w' ∧ PostEn l w e w' := by
  obtain ⟨G, HG⟩ : ∃ G, Hid (w.heap.size = G) := ⟨_, rfl⟩
  obtain ⟨LN, HLN⟩ : ∃ n, Hid (l.length = n) := ⟨_, rfl⟩
  have hLN : LN ≤ 20000 := by rw [← HLN.out]; exact hl
  obtain ⟨zr, HZ⟩ : ∃ zr : Array Value, Hid (zr = (erV ⟨0, [], z20⟩).toArray) := ⟨_, rfl⟩
  have hz51 : ∀ w : World, (zeroValue 51).run Tryz.prog w = .ok (.agg zr) w := fun w => by rw [HZ.out]; exact zero51 w
  have HZS : Hid (zr.size = 22) := hid (by rw [HZ.out]; rfl)
  have HE : Hid (∀ W, Below G w W → Ers W) := fun W hW => he.below (by rw [HG.out]; exact hW)
  have HM : Hid (∀ W, Below G w W → Mx W) := fun W hW => hm.below (by rw [HG.out]; exact hW)
  have HBF0 : Hid (Bf w w G (.slice none 0 0) []) := hid (bf_nil w G (by rw [HG.out]; exact Nat.le_refl _))
  clear he hm
  go_enter Tryz.func98, Tryz.ntmps98
  go_wp2_with fail
  go_loopg [0, 3] LN (fun g tv u wr => ∃ (t : List UInt8) (v : Value) (es : List Er), tv = .string ⟨t.toArray⟩ ∧ v = u ∧ g = t.length ∧ Hid (Bf w wr G v es) ∧ Hid (Rb l es t) ∧ Hid (WfE es) ∧ Hid (∀ x ∈ es, x.name.length ≤ 20000) ∧ es.length * 21 + t.length ≤ LN + 20 ∧ (t ≠ [] → es.length * 21 + t.length ≤ LN))
  case atStart => exact ⟨l, _, [], rfl, rfl, HLN.out.symm, HBF0, hid (Rb.start l), hid (fun x hx => by cases hx), hid (fun x hx => by cases hx), by rw [HLN.out]; simp, fun _ => by rw [HLN.out]; simp⟩
  case round =>
    obtain ⟨t, v, es, rfl, hv, hk, HBF, HRB, HWF, HNM, hc1, hc2⟩ := hrel
    subst hv
    by_cases ht : t = []
    · have HES : Hid (Rb l es []) := hid (by rw [← ht]; exact HRB.out)
      obtain ⟨n, HN⟩ : ∃ n, Hid (es.length = n) := ⟨_, rfl⟩
      have hn1 : n ≤ 1000 := by rw [← HN.out]; omega
      obtain ⟨va, vc, hv⟩ : ∃ va vc, v = .slice va n vc := by
        have ho := HBF.out.own
        rw [HN.out] at ho
        exact owns_shape ho
      subst hv
      have HPE : Hid (Pe wr va vc es) := hid (HBF.out.pe (fun x hx => (HWF.out x hx).1) HN.out)
      subst ht
      clear hc1 hc2 hk
      go_wp2
      go_ret
      exact ⟨by rw [HG.out]; exact HBF.out.below, va, vc, es, by rw [HN.out]; rfl, (fun p hp => by rw [HG.out]; exact (own_lt HBF.out.own p.block (by rw [hp]; rfl)).1), HPE.out, HWF.out, by rw [HN.out]; exact hn1, HNM.out, fun u h1 h2 => HES.out.done u h1 h2⟩
    · have hc3 := hc2 ht
      obtain ⟨T, HT⟩ : ∃ S : ByteArray, Hid (⟨t.toArray⟩ = S) := ⟨_, rfl⟩
      have hemp : (T.toList == []) = false := by rw [← HT.out, Lib.toList_data]; simpa using ht
      have hemp2 : T.toList.isEmpty = false := by rw [← HT.out, Lib.toList_data]; simpa using ht
      obtain ⟨hd, HHD⟩ : ∃ x, Hid ((Lib.cut t [0]).1 = x) := ⟨_, rfl⟩
      obtain ⟨rs, HRS⟩ : ∃ x, Hid ((Lib.cut t [0]).2.1 = x) := ⟨_, rfl⟩
      obtain ⟨b1, HB1⟩ : ∃ x, Hid ((Lib.cut t [0]).2.2 = x) := ⟨_, rfl⟩
      obtain ⟨mo, HMO⟩ : ∃ x, Hid ((Lib.cut hd [32]).1 = x) := ⟨_, rfl⟩
      obtain ⟨nm, HNA⟩ : ∃ x, Hid ((Lib.cut hd [32]).2.1 = x) := ⟨_, rfl⟩
      obtain ⟨b2, HB2⟩ : ∃ x, Hid ((Lib.cut hd [32]).2.2 = x) := ⟨_, rfl⟩
      have htl : t.length ≤ 20000 := by omega
      have hhl : hd.length ≤ 20000 := by rw [← HHD.out]; have := cut_le1 t [0]; omega
      have hrl : rs.length + 1 ≤ t.length := by rw [← HRS.out]; exact cut_len t 0 ht
      have hml : mo.length ≤ 20000 := by rw [← HMO.out]; have := cut_le1 hd [32]; omega
      have hnl : nm.length ≤ 20000 := by rw [← HNA.out]; have := cut_le2 hd [32]; omega
      have C1 : Hid (∀ W, Below G w W → Calls Tryz.prog 82 #[.string T, .string ⟨#[0]⟩] W fun e w' => e = .returned (.tuple #[.string ⟨hd.toArray⟩, .string ⟨rs.toArray⟩, .bool b1]) ∧ ∃ q, w' = W.drewN q) := fun W hW => by
        have := scut_any t [0] W (by omega) (HM.out W hW)
        rw [HT.out, HHD.out, HRS.out, HB1.out] at this
        exact this
      have C2 : Hid (∀ W, Below G w W → Calls Tryz.prog 82 #[.string ⟨hd.toArray⟩, .string ⟨#[32]⟩] W fun e w' => e = .returned (.tuple #[.string ⟨mo.toArray⟩, .string ⟨nm.toArray⟩, .bool b2]) ∧ ∃ q, w' = W.drewN q) := fun W hW => by
        have := scut_any hd [32] W (by omega) (HM.out W hW)
        rw [HMO.out, HNA.out, HB2.out] at this
        exact this
      have C3 : Hid (∀ W, Below G w W → Calls Tryz.prog 134 #[.string ⟨mo.toArray⟩] W fun e w' => Below W.heap.size W w' ∧ PMo mo e) := fun W hW => modeOf_any mo (by omega) W (HE.out W hW)
      have hG0 : G ≤ wr.heap.size := HBF.out.le
      rw [HT.out]
      go_wp2_with fail
      refine (C1.out wr HBF.out.below).mono ?_
      rintro ev w1 ⟨rfl, q1, hw1⟩
      have hb1 : Below wr.heap.size wr w1 := by rw [hw1]; exact below_drewH (Below.refl _ _) _
      clear hw1
      have HBF1 : Hid (Bf w w1 G v es) := hid (HBF.out.carry hb1)
      clear hb1
      go_wp2_with fail
      refine (C2.out w1 HBF1.out.below).mono ?_
      rintro ev w2 ⟨rfl, q2, hw2⟩
      have hb2 : Below w1.heap.size w1 w2 := by rw [hw2]; exact below_drewH (Below.refl _ _) _
      clear hw2
      have HBF2 : Hid (Bf w w2 G v es) := hid (HBF1.out.carry hb2)
      clear hb2
      go_wp2_with fail
      refine (C3.out w2 HBF2.out.below).mono ?_
      rintro ev w3 ⟨hb3, mv, rfl, hmv⟩
      have HBF3 : Hid (Bf w w3 G v es) := hid (HBF2.out.carry hb3)
      clear hb3
      obtain ⟨S, HS⟩ : ∃ S : ByteArray, Hid (⟨nm.toArray⟩ = S) := ⟨_, rfl⟩
      obtain ⟨x, HX⟩ : ∃ x : Er, Hid (⟨mv, nm, fill rs⟩ = x) := ⟨_, rfl⟩
      obtain ⟨R0, HR0⟩ : ∃ R : List Value, Hid ((Value.int .i64 mv :: Value.string S :: row .u8 z20) = R) := ⟨_, rfl⟩
      obtain ⟨R1, HR1⟩ : ∃ R : List Value, Hid (erV x = R) := ⟨_, rfl⟩
      have HXI : Hid (x.id.length = 20 ∧ ∀ n ∈ x.id, 0 ≤ n ∧ n < 256) := hid (by rw [← HX.out]; exact ⟨fill_len rs, fill_b rs⟩)
      have HXN : Hid (x.name.length ≤ 20000) := hid (by rw [← HX.out]; exact hnl)
      have HRF : Hid (Rf t x (rs.drop 20)) := hid (by
        have := rf_entry t mv (by rw [HHD.out, HMO.out]; exact fun m h1 h2 => hmv m h1 h2)
        rw [HHD.out, HNA.out, HRS.out, HX.out] at this
        exact this)
      clear hmv
      have HR0L : Hid (R0.length = 22) := hid (by rw [← HR0.out]; rfl)
      have HR1L : Hid (R1.length = 22) := hid (by rw [← HR1.out]; exact erV_len x HXI.out.1)
      have hi51 : (Tryz.prog.info? 51).map (·.size) = some R1.length := by rw [HR1L.out]; exact size51
      have I51 : Hid ((Tryz.prog.info? 51).map (·.size) = some R0.toArray.size) := hid (by rw [List.size_toArray, HR0L.out]; exact size51)
      have E51 : Hid (zr.size = R0.toArray.size) := hid (by rw [HZS.out, List.size_toArray, HR0L.out])
      have O51 : Hid (R0.toArray.all (·.oneCell') = true) := hid (by
        rw [← HR0.out, ← HS.out]
        exact all_oneCell_toArray (erV_one ⟨mv, nm, z20⟩))
      have HBU : Hid (Tryz.prog.built 51 [(0, .int .i64 mv), (1, .string S)] = some R0.toArray) := hid (by rw [← HR0.out]; exact built51 mv S)
      have D0 : Hid ((w3.alloc (.cells zr 51)).heap[w3.heap.size]? = some (.cells zr 51 (0, 0))) := heap_alloc_new w3 _
      obtain ⟨w4, HW4⟩ : ∃ w4, Hid ((w3.alloc (.cells zr 51)).setRow w3.heap.size R0.toArray = w4) := ⟨_, rfl⟩
      obtain ⟨K, HK⟩ : ∃ K, Hid (w3.heap.size = K) := ⟨_, rfl⟩
      have hb4 : Below w3.heap.size w3 w4 := by rw [← HW4.out]; exact below_setRow ((Below.refl _ w3).alloc (Nat.le_refl _) _) (Nat.le_refl _) _
      have B4 : Hid (w4.heap[K]? = some (.cells R0.toArray 51 (0, 0))) := hid (by rw [← HW4.out, ← HK.out]; exact setRow_heap _ _ _ R0.toArray _ _ D0.out)
      obtain ⟨RS, HRSS⟩ : ∃ S : ByteArray, Hid (⟨rs.toArray⟩ = S) := ⟨_, rfl⟩
      obtain ⟨k, HKK⟩ : ∃ k, Hid (Nat.min rs.length 20 = k) := ⟨_, rfl⟩
      have hk20 : k ≤ 20 ∧ k ≤ rs.length ∧ (k = 20 ∨ k = rs.length) := by
        have : Nat.min rs.length 20 = min rs.length 20 := rfl
        have := HKK.out
        omega
      obtain ⟨w5, HW5⟩ : ∃ w5, Hid (w4.setCells K 2 ((nums (rs.take 20)).map (Value.int .u8)) = w5) := ⟨_, rfl⟩
      have HNT : Hid ((RS.data.toList.map fun x => Value.int .u8 (x.toNat : Int)).take k = (nums (rs.take 20)).map (Value.int .u8)) := hid (by
        rw [← HRSS.out]
        simp only [nums, List.map_map, List.map_take]
        rcases hk20.2.2 with h | h
        · rw [h]; rfl
        · rw [List.take_of_length_le (by simp; omega), List.take_of_length_le (by simp; omega)]; rfl)
      have HCP : Hid (∀ ty, (Builtin.copy_ #[23, 9] ty #[.slice (some ⟨K, 2, none⟩) 20 20, .string RS]).run Tryz.prog w4 = .ok (.int .i64 k) w5) := fun ty => by
        rw [← HW5.out, ← HNT.out]
        have hcell : ∀ j, j < k → ∃ u, R0[2 + j]? = some u := fun j hj => ⟨_, List.getElem?_eq_getElem (by rw [HR0L.out]; omega)⟩
        refine run_copy_str w4 K 2 RS k (by rw [← HKK.out, ← HRSS.out, txt_len]) ty (fun j hj => ?_) (fun j hj => frozen_of_row w4 K _ _ 51 B4.out)
        obtain ⟨u, hu⟩ := hcell j hj
        rw [cell_of_row w4 K (2 + j) _ 51 _ B4.out]
        simp [hu]
      have B5 : Hid (w5.heap[K]? = some (.cells R1.toArray 51 (0, 0))) := hid (by
        have h1 := heap_setCells_same K 51 ((nums (rs.take 20)).map (Value.int .u8)) 2 w4 R0 B4.out
        rw [HW5.out] at h1
        rw [h1]
        congr 2
        rw [← HR0.out, ← HR1.out, ← HX.out]
        have h20 : (nums (rs.take 20)).length ≤ 20 := by rw [nums_len, List.length_take]; omega
        have hz : row .u8 z20 = (List.replicate (nums (rs.take 20)).length (Value.int .u8 0)) ++ (List.replicate (20 - (nums (rs.take 20)).length) (Value.int .u8 0)) := by
          rw [List.replicate_append_replicate, show (nums (rs.take 20)).length + (20 - (nums (rs.take 20)).length) = 20 by omega]
          rfl
        rw [hz]
        have := setAt_mid ((nums (rs.take 20)).map (Value.int .u8)) (List.replicate (nums (rs.take 20)).length (Value.int .u8 0)) [Value.int .i64 mv, Value.string S] (List.replicate (20 - (nums (rs.take 20)).length) (Value.int .u8 0)) (by simp)
        refine (congrArg List.toArray this).trans ?_
        unfold erV fill row
        rw [List.map_append, List.map_replicate, HS.out, nums_len]
        rfl)
      have hsl : ∀ W : World, (Instr.slice 9 (.string RS) (some (.int .i64 k)) none none).run Tryz.prog W = .ok (.string ⟨(rs.drop k).toArray⟩) W := fun W => by
        rw [← HRSS.out]; exact slice_from rs k hk20.2.1 W
      have HDR : Hid (rs.drop k = rs.drop 20) := hid (by
        rcases hk20.2.2 with h | h
        · rw [h]
        · rw [List.drop_eq_nil_of_le (by omega), List.drop_eq_nil_of_le (by omega)])
      rw [HDR.out] at hsl
      have HBF5 : Hid (Bf w w5 G v es) := hid (by
        have h4 := HBF3.out.carry hb4
        have hb5 : Below w3.heap.size w3 w5 := by
          rw [← HW5.out]
          exact below_setCells (by rw [HK.out]; exact Nat.le_refl _) _ _ _ _ hb4
        exact HBF3.out.carry hb5)
      clear hb4
      have L5 : Hid (w5.rangeAt K 0 R1) := hid (range_row B5.out)
      have hes : es.length ≤ 3000 := by omega
      have hcp := HCP.out 3
      rw [HS.out, HRSS.out]
      go_wp2_with (first
        | (refine wpList_built rfl 51 _ rfl R0.toArray (by simp only [List.map_toArray, List.map_cons, List.map_nil]; exact HBU.out) ?_)
        | (refine wpList_store_row rfl 51 _ _ rfl w3.heap.size R0.toArray rfl rfl 51 zr D0.out I51.out E51.out O51.out ?_; rw [HW4.out, HK.out])
        | refine wpList_load_mid rfl 51 _ rfl K 0 rfl R1 _ L5.out Tryz.underlying51 rfl hi51 ?_
        | refine wpList_buildS rfl 47 1 _ rfl (.agg R1.toArray) _ rfl (by rw [← HR1.out]; exact run_build51 x HXI.out.1 _) ?_
        | (at_builtin; refine wpList_bf_one rfl _ _ rfl G _ _ rfl (HBF5.out.alloc _) w5.heap.size x rfl (range_row (heap_alloc_new w5 _)) HXI.out.1 hes ?_; intro v6 w6 hbf6; have HBF6 : Hid (Bf w w6 G v6 (es ++ [x])) := hbf6; clear hbf6)
        | fail)
      go_roundg (rs.drop 20).length
      case measure => rw [List.length_drop]; omega
      case rel =>
        refine ⟨rs.drop 20, _, es ++ [x], rfl, rfl, rfl, HBF6, hid (HRB.out.step ht x _ HRF.out), hid ?_, hid ?_, ?_, ?_⟩
        · intro y hy
          rcases List.mem_append.1 hy with hy | hy
          · exact HWF.out y hy
          · have : y = x := by simpa using hy
            rw [this]; exact HXI.out
        · intro y hy
          rcases List.mem_append.1 hy with hy | hy
          · exact HNM.out y hy
          · have : y = x := by simpa using hy
            rw [this]; exact HXN.out
        · rw [List.length_append, List.length_drop]
          simp only [List.length_cons, List.length_nil]
          omega
        · intro hne
          have := List.length_pos_iff.2 hne
          rw [List.length_drop] at this
          rw [List.length_append, List.length_drop]
          simp only [List.length_cons, List.length_nil]
          omega
end Go.Proofs.YtbpdielmdhhdfaaGreatDoor
