/- 'withSum'; 'appendCounts'. -/
import Derived.Test.YtdfihfmmfmoabaaDoorPkF
namespace Go.Proofs.YtdfihfmmfmoabaaDoor
open Go.RowKit Go.Shelf
variable [Inhabited Pn]
set_option linter.unusedVariables false
set_option linter.unusedSectionVars false
set_option linter.unusedSimpArgs false
set_option maxRecDepth 20000 in
set_option maxHeartbeats 1000000 in
theorem withSum_any (w0 w : World) (B : Nat) (v : Value) (out : List Int) (hz : IsB out) (hl : out.length ≤ 250000) (hb : Bd w0 w B v out) :
    Calls Tryd.prog 14 #[v] w fun e w' => ∃ v', e = .returned v' ∧ Bd w0 w' B v' (out ++ sha out) := by
  obtain ⟨a, cap, rfl, hS⟩ := hb.sl
  obtain ⟨n, HN⟩ : ∃ n, Hid (out.length = n) := ⟨_, rfl⟩
  obtain ⟨zr, HZ⟩ : ∃ zr : Array Value, Hid (zr = (row .u8 z20).toArray) := ⟨_, rfl⟩
  have hz24 : ∀ w : World, (zeroValue 24).run Tryd.prog w = .ok (.agg zr) w := fun w => by rw [HZ.out]; exact zero25 w
  obtain ⟨fr, HF⟩ : ∃ fr, Hid (sha out = fr) := ⟨_, rfl⟩
  have HF20 : Hid (fr.length = 20) := hid (by rw [← HF.out]; exact sha_len _)
  obtain ⟨R, HR⟩ : ∃ R : List Value, Hid (row .u8 fr = R) := ⟨_, rfl⟩
  have C28 : Hid (Calls Tryd.prog 28 #[.slice a n cap] w fun e w' => e = .returned (.agg R.toArray) ∧ Below w.heap.size w w') := hid (by
    have := sum6 a cap out w (by omega) hz (fun h0 => by
      obtain ⟨b, off, e1, e2, e3⟩ := hS.at_ h0
      exact ⟨b, off, e1, e2, e3, hS.capl⟩)
    rw [HN.out, HF.out, HR.out] at this
    exact this)
  have HB : Hid (Bd w0 w B (.slice a n cap) out) := hid (by rw [← HN.out]; exact hb)
  have HRL : Hid (R.length = 20) := hid (by rw [← HR.out, row_len]; exact HF20.out)
  have I24 : Hid ((Tryd.prog.info? 24).map (·.size) = some R.toArray.size) := hid (by rw [List.size_toArray, HRL.out]; exact Tryd.size24)
  have E24 : Hid (zr.size = R.toArray.size) := hid (by rw [HZ.out, List.size_toArray, List.size_toArray, HRL.out]; rfl)
  have O24 : Hid (R.toArray.all (·.oneCell') = true) := hid (by rw [← HR.out]; exact all_oneCell_toArray (row_one _ _))
  have hl2 : out.length + fr.length ≤ 1000000 := by rw [HF20.out]; omega
  rw [HN.out, HF.out]
  clear hb hS hz
  go_enter Tryd.func14, Tryd.ntmps14
  go_wp2_with fail
  refine C28.out.mono ?_
  rintro ev w1 ⟨rfl, hb1⟩
  have HB1 : Hid (Bd w0 w1 B (.slice a n cap) out) := HB.out.carry hb1
  clear hb1
  have D0 : Hid ((w1.alloc (.cells zr 24)).heap[w1.heap.size]? = some (.cells zr 24 (0, 0))) := heap_alloc_new w1 _
  obtain ⟨w3, HW3⟩ : ∃ w3, Hid ((w1.alloc (.cells zr 24)).setRow w1.heap.size R.toArray = w3) := ⟨_, rfl⟩
  obtain ⟨K, HK⟩ : ∃ K, Hid (w1.heap.size = K) := ⟨_, rfl⟩
  have hb3 : Below w1.heap.size w1 w3 := by rw [← HW3.out]; exact below_setRow ((Below.refl _ w1).alloc (Nat.le_refl _) _) (Nat.le_refl _) _
  have B3 : Hid (w3.heap[K]? = some (.cells R.toArray 24 (0, 0))) := hid (by rw [← HW3.out, ← HK.out]; exact setRow_heap _ _ _ R.toArray _ _ D0.out)
  have HB3 : Hid (Bd w0 w3 B (.slice a n cap) out) := HB1.out.carry hb3
  have HS3 : Hid (Sl w3 (some ⟨K, 0, none⟩) 20 fr) := hid (id_sl (t := 24) (by rw [HR.out]; exact B3.out) HF20.out)
  clear hb3
  go_wp2_with (first
    | (refine wpList_store_row rfl 24 _ _ rfl w1.heap.size R.toArray rfl rfl 24 zr D0.out I24.out E24.out O24.out ?_; rw [HW3.out, HK.out])
    | (at_builtin; refine wpList_bd_slG rfl _ _ rfl B _ out rfl HB3.out (some ⟨K, 0, none⟩) 20 fr (by rw [HF20.out]; rfl) HS3.out hl2 ?_; intro v2 w2 hb2 hg2; have HB2 : Hid (Bd w0 w2 B v2 (out ++ fr)) := hb2; clear hb2 hg2)
    | fail)
  go_ret
  exact ⟨_, rfl, HB2.out⟩
end Go.Proofs.YtdfihfmmfmoabaaDoor
