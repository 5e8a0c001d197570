import Derived.Test.YtikmbjfambjmaaaGreatDoorMf09
import Derived.Test.YtikmbjfambjmaaaGreatDoorMf07
import Derived.Test.YtikmbjfambjmaaaGreatDoorMf06
import Derived.Shelf.SlSortCmp.NoneTotal
import Derived.Test.YtikmbjfambjmaaaGreatDoorMf05
namespace Go.Proofs.YtikmbjfambjmaaaGreatDoor
open Go.RowKit
variable [Inhabited Er]
set_option linter.unusedVariables false
set_option linter.unusedSectionVars false
set_option linter.unusedSimpArgs false
def okL (es : List Er) : Prop := (∀ x ∈ es, okM x.mode ∧ okE x.name) ∧ (es.map (·.name)).Nodup
def nmV (es : List Er) : List Value := es.map fun x => .string ⟨x.name.toArray⟩
theorem nmV_snoc (es : List Er) (x : Er) : nmV (es ++ [x]) = nmV es ++ [.string ⟨x.name.toArray⟩] := by simp [nmV]
theorem ps_own {w : World} {B : Nat} {a : Option Addr} {n cp : Nat} {es : List Er} (h : w.ownsRow B 9 1 (.slice a n cp) n (nmV es)) (hn : es.length = n) : Ps w a cp (es.map (·.name)) := by
  obtain ⟨hl, ⟨h1, h2⟩ | ⟨g, cap, cur, h1, h2, h3, h4, h5, h6, h7⟩⟩ := h
  · cases h1
    refine ⟨by rw [List.length_map, hn]; exact Nat.le_refl _, fun h0 => ?_⟩
    rw [List.length_map, hn] at h0
    exact absurd h0 (Nat.lt_irrefl _)
  · cases h1
    refine ⟨by simp; omega, fun h0 => ⟨g, 0, rfl, lt_of_some h3, fun i hi => ?_⟩⟩
    rw [List.length_map] at hi
    have hr := range_row (cs := cur.toList) (by simpa using h3) i (.string ⟨((es.map (·.name)).getD i []).toArray⟩) (by
      have : cur.toList[i]? = (nmV es)[i]? := by rw [← h7, List.getElem?_take, if_pos (by omega)]
      rw [this]
      simp [nmV, List.getElem?_map, List.getD_eq_getElem?_getD, List.getElem?_eq_getElem hi])
    simpa using hr
set_option maxRecDepth 20000 in
set_option maxHeartbeats 1000000 in
theorem isTree_any (a : Option Addr) (cap : Nat) (es : List Er) (hwf : WfE es) (hn : es.length ≤ 1000) (w : World) (hP : Pe w a cap es) :
    Calls Tryz.prog 52 #[.slice a es.length cap] w fun e w' => BIs (okL es) e ∧ Below w.heap.size w w' := by
  obtain ⟨i9, hi9, hz0, hz1, hz2⟩ := info_parts Tryz.info9E
  obtain ⟨n, HN⟩ : ∃ n, Hid (es.length = n) := ⟨_, rfl⟩
  obtain ⟨G, HG⟩ : ∃ G, Hid (w.heap.size = G) := ⟨_, rfl⟩
  have hnn : n ≤ 1000 := by rw [← HN.out]; exact hn
  have hnI : ¬ (2000 : Int) < (n : Int) := by omega
  obtain ⟨zr, HZ⟩ : ∃ zr : Array Value, Hid (zr = (erV ⟨0, [], z20⟩).toArray) := ⟨_, rfl⟩
  have hz51 : ∀ w : World, (zeroValue 84).run Tryz.prog w = .ok (.agg zr) w := fun w => by rw [HZ.out]; exact zero51 w
  have HPA : Hid (∀ W, Below G w W → Pe W a cap es) := fun W hW => hP.below (by rw [HG.out]; exact hW)
  have HPL : Hid (0 < n → ∃ b off, a = some ⟨b, off, none⟩ ∧ b < G) := fun h0 => by
    obtain ⟨b, off, e1, e2, _⟩ := hP.at_ (by rw [HN.out]; exact h0)
    exact ⟨b, off, e1, by rw [← HG.out]; exact e2⟩
  have HS0 : Hid (G ≤ w.heap.size) := hid (by rw [HG.out]; exact Nat.le_refl _)
  rw [HN.out]
  clear hP
  go_enter Tryz.func52, Tryz.ntmps52
  go_wp2_with fail
  go_loopg [3, 11] n (fun g v iv wr => ∃ (i : Nat) (va : Option Addr) (vc : Nat), i ≤ n ∧ g = n - i ∧ iv = .int .i64 i ∧ v = .slice va i vc ∧ Hid (wr.ownsRow G 9 1 (.slice va i vc) i (nmV (es.take i))) ∧ Hid (Below G w wr) ∧ Hid (∀ x ∈ es.take i, okM x.mode ∧ okE x.name))
  case atStart => exact ⟨0, none, 0, Nat.zero_le _, rfl, rfl, rfl, hid (World.ownsRow_nil _ _ _ _), hid (by rw [← HG.out]; exact Below.refl _ _), hid (by simp)⟩
  case round =>
    obtain ⟨i, va, vc, hi, hk, rfl, rfl, OW, HB, HD⟩ := hrel
    by_cases hlt : i < n
    · have hlti : (i : Int) < (n : Int) := by omega
      obtain ⟨b, off, hae, hbG⟩ := HPL.out (by omega)
      subst hae
      obtain ⟨b', off', e1, e2, e3⟩ := (HPA.out wr HB.out).at_ (by rw [HN.out]; omega)
      cases e1
      obtain ⟨x, HX⟩ : ∃ x, Hid (es.getD i default = x) := ⟨_, rfl⟩
      have hxm : x ∈ es := by
        rw [← HX.out, List.getD_eq_getElem?_getD, List.getElem?_eq_getElem (by rw [HN.out]; exact hlt)]
        exact List.getElem_mem _
      have hx20 := (hwf x hxm).1
      obtain ⟨R, HR⟩ : ∃ R : List Value, Hid (erV x = R) := ⟨_, rfl⟩
      obtain ⟨S, HS⟩ : ∃ S : ByteArray, Hid ((⟨x.name.toArray⟩ : ByteArray) = S) := ⟨_, rfl⟩
      obtain ⟨m, HM⟩ : ∃ m, Hid (x.mode = m) := ⟨_, rfl⟩
      have RR : Hid (wr.rangeAt b (off + i * 22) R) := hid (by rw [← HR.out, ← HX.out]; exact e3 i (by rw [HN.out]; exact hlt))
      have HFN : Hid (R.length = 22) := hid (by rw [← HR.out]; exact erV_len x hx20)
      have hi51 : (Tryz.prog.info? 84).map (·.size) = some R.length := by rw [HFN.out]; exact size51
      have I51 : Hid ((Tryz.prog.info? 84).map (·.size) = some R.toArray.size) := hid (by rw [List.size_toArray]; exact hi51)
      have E51 : Hid (zr.size = R.toArray.size) := hid (by rw [HZ.out, List.size_toArray, List.size_toArray, HFN.out]; rfl)
      have O51 : Hid (R.toArray.all (·.oneCell') = true) := hid (by rw [← HR.out]; exact all_oneCell_toArray (erV_one _))
      have D0 : Hid ((wr.alloc (.cells zr 84)).heap[wr.heap.size]? = some (.cells zr 84 (0, 0))) := heap_alloc_new wr _
      obtain ⟨w2, HW2⟩ : ∃ w2, Hid ((wr.alloc (.cells zr 84)).setRow wr.heap.size R.toArray = w2) := ⟨_, rfl⟩
      obtain ⟨H, HH⟩ : ∃ H, Hid (wr.heap.size = H) := ⟨_, rfl⟩
      have hGH : G ≤ H := by rw [← HH.out]; have := HB.out.size; have := HS0.out; omega
      have hb2 : Below wr.heap.size wr w2 := by rw [← HW2.out]; exact below_setRow ((Below.refl _ wr).alloc (Nat.le_refl _) _) (Nat.le_refl _) _
      have B2 : Hid (w2.heap[H]? = some (.cells R.toArray 84 (0, 0))) := hid (by rw [← HW2.out, ← HH.out]; exact setRow_heap _ _ _ R.toArray _ _ D0.out)
      have hH2 : H < w2.heap.size := lt_of_some B2.out
      have HC : Hid (∀ W, Below w2.heap.size w2 W → W.cell? ⟨H, 0, none⟩ = some (.int .i64 m) ∧ W.cell? ⟨H, 1, none⟩ = some (.string S)) := fun W hW => by
        have hr := range_row ((hW.block H hH2).trans B2.out)
        rw [← HR.out] at hr
        exact ⟨by rw [← HM.out]; simpa using hr 0 _ rfl, by rw [← HS.out]; simpa using hr 1 _ rfl⟩
      have c0 := (HC.out w2 (Below.refl _ _)).1
      have c1 := (HC.out w2 (Below.refl _ _)).2
      have OW2 : Hid (w2.ownsRow G 9 1 (.slice va i vc) i (nmV (es.take i))) := OW.out.kept (grown_of_below hb2 none) (by cases e : (Value.slice va i vc).ownBlock <;> simp)
      have HB2 : Hid (Below G w w2) := HB.out.trans (hb2.mono (by rw [HH.out]; exact hGH))
      have HB2sz : G ≤ w2.heap.size := by omega
      have HGG : Hid (G = w.heap.size) := hid HG.out.symm
      have HTS : Hid (es.take (i + 1) = es.take i ++ [x]) := hid (by rw [take_snocE es i (by rw [HN.out]; exact hlt), HX.out])
      have HXM : Hid (x ∈ es) := hxm
      clear hb2 hxm e3 e2
      by_cases hm : okM m
      · have C86 : Hid (∀ w, Calls Tryz.prog 69 #[.int .i64 m] w fun e w' => e = .returned (.bool true) ∧ w' = w) := fun w => (isMode_any m w).mono (by
          rintro e w' ⟨hb, rfl⟩
          rcases bis_or hb with ⟨_, rfl⟩ | ⟨h, _⟩
          · exact ⟨rfl, rfl⟩
          · exact absurd hm h)
        have HOM : Hid (okM x.mode) := hid (by rw [HM.out]; exact hm)
        clear hm
        by_cases he : okE x.name
        · have C87 : Hid (∀ w, Calls Tryz.prog 59 #[.string S] w fun e w' => e = .returned (.bool true) ∧ Below w.heap.size w w') := fun w => by
            rw [← HS.out]
            refine (isEntryName_any x.name w).mono ?_
            rintro e w' ⟨hb, h2⟩
            rcases bis_or hb with ⟨_, rfl⟩ | ⟨h, _⟩
            · exact ⟨rfl, h2⟩
            · exact absurd he h
          have HOE : Hid (okE x.name) := he
          clear he
          go_wp2_with (first
            | refine wpList_load_mid rfl 84 _ rfl b (off + i * 22) rfl R _ RR.out Tryz.underlying84 rfl hi51 ?_
            | (refine wpList_store_row rfl 84 _ _ rfl wr.heap.size R.toArray rfl rfl 84 zr D0.out I51.out E51.out O51.out ?_; rw [HW2.out, HH.out])
            | (go_at_call 69; refine (C86.out _).mono ?_; rintro ev w3 ⟨rfl, rfl⟩)
            | (go_at_call 59; refine (C87.out _).mono ?_; rintro ev w3 ⟨rfl, hb3⟩; have c13 := (HC.out w3 hb3).2; have OW3 : Hid (w3.ownsRow G 9 1 (.slice va i vc) i (nmV (es.take i))) := OW2.out.kept (grown_of_below hb3 none) (by cases e : (Value.slice va i vc).ownBlock <;> simp); have HB3 : Hid (Below G w w3) := HB2.out.trans (hb3.mono HB2sz); clear hb3)
            | (at_builtin; refine wpList_append_own_at _ rfl _ _ 161 rfl G 9 i9 (.string ⟨#[]⟩) 1 16 Tryz.underlying161 hi9 hz0 hz1 hz2 rfl (by decide) _ i _ rfl (OW3.out.alloc _) ⟨w3.heap.size, 0, none⟩ 1 1 [.string S] rfl rfl (news_rowE _ [.string S] 9) (by intro u hu; simp at hu; rw [hu]; rfl) (by unfold maxLen; omega) (by omega) (by have := HB3.out.size; have := HS0.out; simp; omega) ?_; intro v1 w4 ho4 hg4 hn4 hl4; obtain ⟨a4, c4, rfl⟩ := owns_shape ho4; have OW4 : Hid (w4.ownsRow G 9 1 (.slice a4 (i + 1 : Nat) c4) (i + 1) (nmV (es.take i) ++ [.string S])) := ho4; have HB4 : Hid (Below G w w4) := (HB3.out.trans ((Below.refl _ w3).alloc (Nat.le_refl _) _ |>.mono (by have := HB3.out.size; have := HS0.out; omega))).grown hg4 (by have := HB3.out.size; have := HS0.out; simp; omega) (fun k hk => (OW3.out.lt k hk).1); clear ho4 hg4 hn4 hl4)
            | fail)
          go_roundg (n - (i + 1))
          case measure => omega
          case rel =>
            refine ⟨i + 1, a4, c4, by omega, rfl, by go_num, rfl, hid ?_, HB4, hid ?_⟩
            · rw [HTS.out, nmV_snoc, HS.out]; exact OW4.out
            · rw [HTS.out]
              intro y hy
              rcases List.mem_append.1 hy with hy | hy
              · exact HD.out y hy
              · have : y = x := by simpa using hy
                subst this
                exact ⟨HOM.out, HOE.out⟩
        · have C87 : Hid (∀ w, Calls Tryz.prog 59 #[.string S] w fun e w' => e = .returned (.bool false) ∧ Below w.heap.size w w') := fun w => by
            rw [← HS.out]
            refine (isEntryName_any x.name w).mono ?_
            rintro e w' ⟨hb, h2⟩
            rcases bis_or hb with ⟨h, _⟩ | ⟨_, rfl⟩
            · exact absurd h he
            · exact ⟨rfl, h2⟩
          have NOK : Hid (¬ okL es) := fun h => he (h.1 x HXM.out).2
          clear he
          go_wp2_with (first
            | refine wpList_load_mid rfl 84 _ rfl b (off + i * 22) rfl R _ RR.out Tryz.underlying84 rfl hi51 ?_
            | (refine wpList_store_row rfl 84 _ _ rfl wr.heap.size R.toArray rfl rfl 84 zr D0.out I51.out E51.out O51.out ?_; rw [HW2.out, HH.out])
            | (go_at_call 69; refine (C86.out _).mono ?_; rintro ev w3 ⟨rfl, rfl⟩)
            | (go_at_call 59; refine (C87.out _).mono ?_; rintro ev w3 ⟨rfl, hb3⟩; have HB3 : Hid (Below G w w3) := HB2.out.trans (hb3.mono HB2sz); clear hb3)
            | fail)
          go_ret
          exact ⟨bis_false NOK.out, by rw [← HGG.out]; exact HB3.out⟩
      · have C86 : Hid (∀ w, Calls Tryz.prog 69 #[.int .i64 m] w fun e w' => e = .returned (.bool false) ∧ w' = w) := fun w => (isMode_any m w).mono (by
          rintro e w' ⟨hb, rfl⟩
          rcases bis_or hb with ⟨h, _⟩ | ⟨_, rfl⟩
          · exact absurd h hm
          · exact ⟨rfl, rfl⟩)
        have NOK : Hid (¬ okL es) := fun h => hm (by rw [← HM.out]; exact (h.1 x HXM.out).1)
        clear hm
        go_wp2_with (first
          | refine wpList_load_mid rfl 84 _ rfl b (off + i * 22) rfl R _ RR.out Tryz.underlying84 rfl hi51 ?_
          | (refine wpList_store_row rfl 84 _ _ rfl wr.heap.size R.toArray rfl rfl 84 zr D0.out I51.out E51.out O51.out ?_; rw [HW2.out, HH.out])
          | (go_at_call 69; refine (C86.out _).mono ?_; rintro ev w3 ⟨rfl, rfl⟩)
          | fail)
        go_ret
        exact ⟨bis_false NOK.out, by rw [← HGG.out]; exact HB2.out⟩
    · have hlti : ¬ (i : Int) < (n : Int) := by omega
      have hin : i = n := by omega
      subst hin
      have htk : es.take i = es := List.take_of_length_le (by rw [HN.out]; exact Nat.le_refl _)
      have hD := HD.out
      rw [htk] at hD OW
      have HPS : Hid (Ps wr va vc (es.map (·.name))) := hid (ps_own OW.out HN.out)
      have hln : (es.map (·.name)).length = i := by rw [List.length_map]; exact HN.out
      have C88 : Hid (Calls Tryz.prog 70 #[.slice va i vc] wr fun e w' => BIs (okL es) e ∧ Below wr.heap.size wr w') := hid (by
        have := differS_any va vc (es.map (·.name)) (fun y hy => by
          obtain ⟨x, hx, rfl⟩ := List.mem_map.1 hy
          have := (hD x hx).2.2.1
          omega) (by rw [hln]; exact hnn) wr HPS.out
        rw [hln] at this
        refine this.mono ?_
        rintro e w' ⟨⟨b, rfl, hb⟩, h2⟩
        exact ⟨⟨b, rfl, hb.trans ⟨fun h => ⟨hD, h⟩, fun h => h.2⟩⟩, h2⟩)
      clear hD htk hln
      go_wp2_with fail
      refine C88.out.mono ?_
      rintro ev w3 ⟨⟨bb, rfl, hbb⟩, hb3⟩
      have HBB : Hid (BIs (okL es) (.returned (.bool bb))) := ⟨bb, rfl, hbb⟩
      have HB3 : Hid (Below G w w3) := HB.out.trans (hb3.mono (by have := HB.out.size; have := HS0.out; omega))
      clear hbb hb3
      go_wp2
      go_ret
      exact ⟨HBB.out, by rw [HG.out]; exact HB3.out⟩
end Go.Proofs.YtikmbjfambjmaaaGreatDoor
namespace Go.Proofs.YtikmbjfambjmaaaGreatDoor
open Go.RowKit
set_option linter.unusedVariables false
set_option linter.unusedSimpArgs false
def octB (m : Int) : List UInt8 := if m = 16384 then [52, 48, 48, 48, 48] else if m = 33188 then [49, 48, 48, 54, 52, 52] else if m = 33261 then [49, 48, 48, 55, 53, 53] else if m = 40960 then [49, 50, 48, 48, 48, 48] else []
theorem octB_nil (m : Int) : octB m = [] ↔ ¬ okM m := by
  unfold octB okM
  by_cases h1 : m = 16384
  · simp [h1]
  · by_cases h2 : m = 33188
    · simp [h2]
    · by_cases h3 : m = 33261
      · simp [h3]
      · by_cases h4 : m = 40960
        · simp [h4]
        · simp [h1, h2, h3, h4]
set_option maxRecDepth 20000 in
theorem octal_any (m : Int) (w : World) : Calls Tryz.prog 61 #[.int .i64 m] w fun e w' => e = .returned (.string ⟨(octB m).toArray⟩) ∧ w' = w := by
  by_cases h : okM m
  · rcases h with rfl | rfl | rfl | rfl
    all_goals
      go_enter Tryz.func61, Tryz.ntmps61
      go_wp2
      go_ret
      exact ⟨rfl, rfl⟩
  · have HM : Hid (octB m = []) := (octB_nil m).2 h
    have h1 : ¬ m = 16384 := fun e => h (Or.inl e)
    have h2 : ¬ m = 33188 := fun e => h (Or.inr (Or.inl e))
    have h3 : ¬ m = 33261 := fun e => h (Or.inr (Or.inr (Or.inl e)))
    have h4 : ¬ m = 40960 := fun e => h (Or.inr (Or.inr (Or.inr e)))
    rw [HM.out]
    clear h
    go_enter Tryz.func61, Tryz.ntmps61
    go_wp2
    go_ret
    exact ⟨rfl, rfl⟩
set_option maxRecDepth 20000 in
theorem key_any (e : Er) (hn : e.name.length ≤ 1000000) (hl : e.id.length = 20) (w : World) : Calls Tryz.prog 80 #[.agg (erV e).toArray] w fun r w' => r = .returned (.string ⟨(keyB e).toArray⟩) ∧ Grew w w' := by
  obtain ⟨S, HS⟩ : ∃ S : ByteArray, Hid (S = ⟨e.name.toArray⟩) := ⟨_, rfl⟩
  obtain ⟨m, HM⟩ : ∃ m, Hid (e.mode = m) := ⟨_, rfl⟩
  have hsz : S.size = e.name.length := by rw [HS.out]; simp [ByteArray.size]
  have hS1 : ¬ 9223372036854775807 < S.size + 1 := by omega
  have hS2 : ¬ 9223372036854775807 ≤ S.size := by omega
  have h47 : (⟨#[47]⟩ : ByteArray).size = 1 := rfl
  have HE : Hid (S ++ ⟨#[47]⟩ = ⟨(e.name ++ [47]).toArray⟩) := hid (by
    rw [HS.out, show (⟨#[47]⟩ : ByteArray) = ⟨[47].toArray⟩ from rfl]
    exact str_app _ _)
  have HG : Hid (∀ o, Grew w (w.alloc o)) := fun o => Grew.alloc w o
  obtain ⟨a0, a1, a2, a3, a4, a5, a6, a7, a8, a9, a10, a11, a12, a13, a14, a15, a16, a17, a18, a19, el⟩ := list20 e.id hl
  have HV : Hid ((erV e).toArray = (Value.int .i64 m :: Value.string S :: row .u8 [a0, a1, a2, a3, a4, a5, a6, a7, a8, a9, a10, a11, a12, a13, a14, a15, a16, a17, a18, a19]).toArray) := hid (by unfold erV; rw [HM.out, HS.out, el])
  rw [HV.out]
  clear el hl hn
  simp only [row, List.map_cons, List.map_nil]
  by_cases h : m = 16384
  · have HK : Hid (⟨(keyB e).toArray⟩ = S ++ ⟨#[47]⟩) := hid (by rw [HE.out]; unfold keyB; rw [HM.out, if_pos h])
    rw [HK.out]
    subst h
    go_enter Tryz.func80, Tryz.ntmps80
    go_wp2
    go_ret
    exact ⟨rfl, HG.out _⟩
  · have HK : Hid (⟨(keyB e).toArray⟩ = S) := hid (by rw [HS.out]; unfold keyB; rw [HM.out, if_neg h])
    rw [HK.out]
    go_enter Tryz.func80, Tryz.ntmps80
    go_wp2
    go_ret
    exact ⟨rfl, HG.out _⟩
end Go.Proofs.YtikmbjfambjmaaaGreatDoor
namespace Go.Proofs.YtikmbjfambjmaaaGreatDoor
open Go.RowKit
set_option linter.unusedVariables false
set_option linter.unusedSimpArgs false
def erB (x : Er) : List UInt8 := octB x.mode ++ 32 :: (x.name ++ 0 :: Lib.bytesOf x.id)
def treeB (es : List Er) : List UInt8 := es.flatMap erB
theorem treeB_cons (x : Er) (es : List Er) : treeB (x :: es) = erB x ++ treeB es := by simp [treeB]
theorem treeB_snoc (es : List Er) (x : Er) : treeB (es ++ [x]) = treeB es ++ erB x := by simp [treeB]
def okTr (u : List Er) : Prop := WfE u ∧ ∀ x ∈ u, okM x.mode ∧ okE x.name
theorem okTr_tail {x : Er} {u : List Er} (h : okTr (x :: u)) : okTr u := ⟨fun y hy => h.1 y (by simp [hy]), fun y hy => h.2 y (by simp [hy])⟩
theorem octB_len (m : Int) : (octB m).length ≤ 6 := by
  unfold octB
  repeat' split
  all_goals decide
theorem octB_ne (m : Int) : ∀ b ∈ octB m, b ≠ 32 ∧ b ≠ 0 := by
  unfold octB
  repeat' split
  all_goals decide
theorem erB_len (x : Er) : (erB x).length = (octB x.mode).length + x.name.length + x.id.length + 2 := by
  simp [erB, Lib.bytesOf_length]; omega
theorem treeB_len (es : List Er) (h : ∀ x ∈ es, x.name.length ≤ 50 ∧ x.id.length = 20) : (treeB es).length ≤ es.length * 78 := by
  induction es with
  | nil => simp [treeB]
  | cons x es ih =>
    rw [treeB_cons, List.length_append, erB_len, List.length_cons]
    have h1 := h x (by simp)
    have h2 := ih (fun y hy => h y (by simp [hy]))
    have h3 := octB_len x.mode
    omega
theorem nums_bytes (l : List Int) (h : ∀ n ∈ l, 0 ≤ n ∧ n < 256) : nums (Lib.bytesOf l) = l := nums_bytesOf l (fun x hx => h x hx)
def Rb (l : List UInt8) (pre : List Er) (t : List UInt8) : Prop := ∀ u, okTr u → treeB u = l → ∃ u2, u = pre ++ u2 ∧ okTr u2 ∧ treeB u2 = t
theorem Rb.start (l : List UInt8) : Rb l [] l := fun u h e => ⟨u, rfl, h, e⟩
def Rf (t : List UInt8) (x : Er) (r : List UInt8) : Prop := ∀ y r', okM y.mode → okE y.name → y.id.length = 20 → (∀ n ∈ y.id, 0 ≤ n ∧ n < 256) → t = erB y ++ r' → x = y ∧ r = r'
theorem Rb.step {l : List UInt8} {pre : List Er} {t : List UInt8} (h : Rb l pre t) (hne : t ≠ []) (x : Er) (r : List UInt8) (hx : Rf t x r) : Rb l (pre ++ [x]) r := by
  intro u hu e
  obtain ⟨u2, h1, h2, h3⟩ := h u hu e
  match u2, h1, h2, h3 with
  | [], _, _, h3 => exact absurd h3.symm (by simpa [treeB] using hne)
  | y :: u3, h1, h2, h3 =>
    rw [treeB_cons] at h3
    have hy := h2.1 y (by simp)
    have hy2 := h2.2 y (by simp)
    obtain ⟨rfl, rfl⟩ := hx y (treeB u3) hy2.1 hy2.2 hy.1 hy.2 h3.symm
    exact ⟨u3, by rw [h1]; simp, okTr_tail h2, rfl⟩
theorem Rb.done {l : List UInt8} {es : List Er} (h : Rb l es []) (u : List Er) (hu : okTr u) (e : treeB u = l) : es = u := by
  obtain ⟨u2, h1, h2, h3⟩ := h u hu e
  match u2, h1, h3 with
  | [], h1, _ => rw [h1]; simp
  | y :: u3, _, h3 =>
    rw [treeB_cons] at h3
    have := congrArg List.length h3
    rw [List.length_append, erB_len] at this
    simp at this
theorem okL_perm {x y : List Er} (h : x.Perm y) (ho : okL x) : okL y := ⟨fun a ha => ho.1 a (h.symm.subset ha), ((h.map (·.name)).nodup_iff).1 ho.2⟩
theorem okL_keys {es : List Er} (h : okL es) : (es.map keyB).Nodup := key_nodup es (fun x hx b hb => ((h.1 x hx).2.2.2.2.2.2 b hb).1) h.2
theorem srtE_srtE {es : List Er} (h : okL es) : srtE (srtE es) = srtE es :=
  (srtE_one (srtE es) (srtE es) (((srtE_perm es).map keyB).nodup_iff.2 (okL_keys h)) (List.Perm.refl _) (srtE_asc es)).symm
theorem wfE_perm {x y : List Er} (h : x.Perm y) (ho : WfE x) : WfE y := fun a ha => ho a (h.symm.subset ha)
theorem okTr_srt {es : List Er} (hw : WfE es) (h : okL es) : okTr (srtE es) := ⟨wfE_perm (srtE_perm es).symm hw, (okL_perm (srtE_perm es).symm h).1⟩
end Go.Proofs.YtikmbjfambjmaaaGreatDoor
namespace Go.Proofs.YtikmbjfambjmaaaGreatDoor
open Go.RowKit Go.Shelf
variable [Inhabited Er]
set_option linter.unusedVariables false
set_option linter.unusedSectionVars false
set_option linter.unusedSimpArgs false
abbrev En := { e : Er // e.name.length ≤ 50 ∧ e.id.length = 20 }
variable [Inhabited En]
def encN (x : En) : List Value := erV x.1
def cfN (x y : En) : Int := cmpE x.1 y.1
theorem ltN (x y : En) : ltOf cfN x y = decide (keyB x.1 < keyB y.1) := by
  unfold ltOf cfN cmpE
  exact decide_eq_decide.2 (cb_iff _ _)
theorem swoN : Sort.SWO (ltOf cfN) where
  irrefl x := by rw [ltN]; exact decide_eq_false (lex_irrefl _)
  trans x y z h1 h2 := by
    rw [ltN] at *
    exact decide_eq_true (lex_trans _ _ _ (of_decide_eq_true h1) (of_decide_eq_true h2))
  ntrans x y z h1 h2 := by
    rw [ltN] at *
    exact decide_eq_false (lex_ntrans _ _ _ (of_decide_eq_false h1) (of_decide_eq_false h2))
theorem cmpLays45 (blk off size : Nat) (w : World) : CmpLays Tryz.prog 55 #[] encN 22 cfN blk off size w := fun m os dk _ x y => by
  have := byOrder_any x.1 y.1 (by have := x.2.1; omega) (by have := y.2.1; omega) x.2.2 y.2.2 (sortWorldK encN 22 w blk off m dk os)
  exact this
theorem enters45 : ∀ args w, (callFunc 55 args).run Tryz.prog w = .ok (.enter 55 args) w := enters_of Tryz.func55 (by kernel_rfl) rfl
theorem sort_any (blk off cap : Nat) (d : Array En) (w : World) (hH : Sort.HoldsK encN 22 w blk off d) (hblk : blk < w.heap.size) (hsz : d.size ≤ 1000) :
    Calls Tryz.prog 72 #[.slice (some ⟨blk, off, none⟩) d.size cap, .func (.func 55) #[] #[]] w fun e w' => e = .returned (.tuple #[]) ∧ ∃ d' n os, Sort.PermIn 0 d.size d d' ∧ Sort.SortedIn (ltOf cfN) 0 d.size d' ∧ w' = sortWorldK encN 22 w blk off n d' os :=
  AnyQ.slices_SortFunc Tryz.sortE 22 Tryz.isAgg84 Tryz.sizeOf84 encN (fun x => erV_len x.1 x.2.2) (fun x => erV_one x.1) cfN swoN 55 #[] blk off cap d w enters45 (cmpLays45 blk off d.size w) hH hblk (by omega)
theorem sort_none (p : Option Addr) (cap : Nat) (fv : Value) (w : World) : Calls Tryz.prog 72 #[.slice p 0 cap, fv] w fun e w' => e = .returned (.tuple #[]) ∧ w' = w :=
  AnyF.slices_SortFunc_none Tryz.sortE p cap fv w
theorem fE_at : ∀ (es : List Er) (h : ∀ x ∈ es, x.id.length = 20) (i j : Nat), i < es.length → j < 22 → (fE es)[i * 22 + j]? = (erV (es.getD i default))[j]?
  | [], _, i, j, h, _ => by simp at h
  | x :: es, h, 0, j, _, hj => by
    have hl : (erV x).length = 22 := erV_len x (h x (by simp))
    show (erV x ++ fE es)[0 * 22 + j]? = _
    rw [List.getElem?_append_left (by omega)]
    simp
  | x :: es, h, i + 1, j, hi, hj => by
    have hl : (erV x).length = 22 := erV_len x (h x (by simp))
    show (erV x ++ fE es)[(i + 1) * 22 + j]? = _
    rw [List.getElem?_append_right (by omega), hl, show (i + 1) * 22 + j - 22 = i * 22 + j by omega, fE_at es (fun y hy => h y (by simp [hy])) i j (by simpa using hi) hj]
    simp
end Go.Proofs.YtikmbjfambjmaaaGreatDoor
namespace Go.Proofs.YtikmbjfambjmaaaGreatDoor
open Go.RowKit Go.Shelf
variable [Inhabited Er] [Inhabited En]
set_option linter.unusedVariables false
set_option linter.unusedSectionVars false
set_option linter.unusedSimpArgs false
theorem values_call (a : Option Addr) (n cap : Nat) (w : World) : Calls Tryz.prog 54 #[.slice a n cap] w fun e w' => e = .returned (.func (.func 73) #[] #[.pointer (some ⟨w.heap.size, 0, none⟩)]) ∧ w' = w.alloc (.cells #[.slice a n cap] 72) := by
  go_enter Tryz.func54, Tryz.ntmps54
  go_wp2
  go_ret
  exact ⟨rfl, rfl⟩
theorem collect_any (Bs : Nat) (a : Option Addr) (cap : Nat) (es : List Er) (w : World) (hwf : WfE es) (hP : Pe w a cap es) (hl : es.length ≤ 1000) (hbs : Boxed w Bs 72 (.slice a es.length cap)) :
    Calls Tryz.prog 71 #[.func (.func 73) #[] #[.pointer (some ⟨Bs, 0, none⟩)]] w (PostK w es) := by
  have HC : Hid (Calls Tryz.prog 88 #[.slice none 0 0, .func (.func 73) #[] #[.pointer (some ⟨Bs, 0, none⟩)]] w (PostK w es)) := appendSeq_any Bs a cap es w hwf hP hl hbs
  clear hwf hP hbs
  go_enter Tryz.func71, Tryz.ntmps71
  go_wp2_with fail
  refine HC.out.mono ?_
  rintro e w1 ⟨v, rfl, ho, hb⟩
  have HO : Hid (w1.ownsRow w.heap.size 84 22 v es.length (fE es)) := ho
  have HB : Hid (Below w.heap.size w w1) := hb
  clear ho hb
  go_wp2
  go_ret
  exact ⟨v, rfl, HO.out, HB.out⟩
def WfN (es : List Er) : Prop := ∀ x ∈ es, x.name.length ≤ 50 ∧ x.id.length = 20
theorem WfN.tail {x : Er} {es : List Er} (h : WfN (x :: es)) : WfN es := fun y hy => h y (by simp [hy])
def toN : (es : List Er) → WfN es → List En
  | [], _ => []
  | x :: es, h => ⟨x, h x (by simp)⟩ :: toN es h.tail
theorem toN_val : ∀ (es : List Er) (h : WfN es), (toN es h).map (·.1) = es
  | [], _ => rfl
  | x :: es, h => congrArg (x :: ·) (toN_val es h.tail)
theorem toN_len (es : List Er) (h : WfN es) : (toN es h).length = es.length := by
  have := congrArg List.length (toN_val es h)
  rwa [List.length_map] at this
theorem toN_at (es : List Er) (h : WfN es) (i : Nat) (hi : i < es.length) : ((toN es h).toArray[i]!).1 = es.getD i default := by
  have hi' : i < (toN es h).length := by rw [toN_len]; exact hi
  have h1 : (toN es h).toArray[i]! = (toN es h)[i] := by simp [hi']
  rw [h1]
  have h2 : ((toN es h).map (·.1))[i]? = some ((toN es h)[i]).1 := by simp [hi']
  rw [toN_val] at h2
  rw [List.getD_eq_getElem?_getD, h2]
  rfl
theorem holds_own {w : World} {B g n cap : Nat} {es : List Er} (hw : WfN es) (hn : es.length = n) (h : w.ownsRow B 84 22 (.slice (some ⟨g, 0, none⟩) n cap) n (fE es)) : Sort.HoldsK encN 22 w g 0 (toN es hw).toArray := by
  intro j hj
  rw [Sort.size_flatK, List.size_toArray, toN_len, hn] at hj
  rw [Sort.get_flatK _ _ _ _ (by rw [List.size_toArray, toN_len, hn]; exact hj), Nat.zero_add]
  refine ⟨?_, h.frozenAt j⟩
  rw [h.cellAt j hj]
  have hd : j / 22 < es.length := by rw [hn]; exact Nat.div_lt_of_lt_mul (by omega)
  have hm : j % 22 < 22 := Nat.mod_lt _ (by omega)
  have e : j / 22 * 22 + j % 22 = j := by omega
  have := fE_at es (fun x hx => (hw x hx).2) (j / 22) (j % 22) hd hm
  rw [e] at this
  rw [this]
  show _ = some ((erV ((toN es hw).toArray[j / 22]!).1)[j % 22]!)
  rw [toN_at es hw _ hd]
  have hmem : es.getD (j / 22) default ∈ es := by
    rw [List.getD_eq_getElem?_getD, List.getElem?_eq_getElem hd]
    exact List.getElem_mem _
  have hl : (erV (es.getD (j / 22) default)).length = 22 := erV_len _ (hw _ hmem).2
  rw [List.getElem?_eq_getElem (by omega), getElem!_pos _ _ (by omega)]
theorem sortW_block (w : World) (g m : Nat) (d : Array En) (os : Array Obj) (k : Nat) (hk : k < w.heap.size) (hg : k ≠ g) : (sortWorldK encN 22 w g 0 m d os).heap[k]? = w.heap[k]? := by
  show ((w.heap.modify g _) ++ os)[k]? = _
  rw [Array.getElem?_append_left (by simpa using hk)]
  simp [Array.getElem?_modify, Ne.symm hg]
theorem sortW_below {B : Nat} {w0 w : World} (hb : Below B w0 w) (hB : B ≤ w0.heap.size) (g m : Nat) (d : Array En) (os : Array Obj) (hg : B ≤ g) : Below B w0 (sortWorldK encN 22 w g 0 m d os) :=
  hb.trans ⟨rfl, rfl, rfl, by show _ ≤ ((w.heap.modify g _) ++ os).size; simp, fun k hk => sortW_block w g m d os k (by have := hb.size; omega) (by omega)⟩
def PostS (w : World) (es : List Er) (e : Ending) (w' : World) : Prop := ∃ a cap es', e = .returned (.slice a es.length cap) ∧ es'.Perm es ∧ es'.Pairwise (fun x y => ¬ keyB y < keyB x) ∧ Pe w' a cap es' ∧ Below w.heap.size w w'
theorem sorted_post {B g n cap : Nat} {w0 w : World} {es : List Er} (hw : WfN es) (hn : es.length = n) (h : w.ownsRow B 84 22 (.slice (some ⟨g, 0, none⟩) n cap) n (fE es)) (d' : Array En) (m : Nat) (os : Array Obj)
    (hp : Sort.PermIn 0 (toN es hw).toArray.size (toN es hw).toArray d') (hs : Sort.SortedIn (ltOf cfN) 0 (toN es hw).toArray.size d') :
    ((d'.toList.map (·.1)).Perm es) ∧ (d'.toList.map (·.1)).Pairwise (fun x y => ¬ keyB y < keyB x) ∧ Pe (sortWorldK encN 22 w g 0 m d' os) (some ⟨g, 0, none⟩) cap (d'.toList.map (·.1)) := by
  have hsz : d'.size = (toN es hw).toArray.size := hp.1
  have hln : d'.size = n := by rw [hsz, List.size_toArray, toN_len, hn]
  have hH := holds_own hw hn h
  have hg : g < w.heap.size := (h.lt g rfl).2
  have hcap : n ≤ cap := by
    obtain ⟨_, ⟨h1, _⟩ | ⟨g', cap', cur, h1, _, _, h4, _⟩⟩ := h
    · cases h1
    · cases h1; exact h4
  refine ⟨?_, ?_, ⟨by simp [hln, hcap], fun h0 => ⟨g, 0, rfl, ?_, fun i hi j v hv => ?_⟩, fun h => by cases h⟩⟩
  · have := hp.2.2
    rw [← hsz, Array.extract_size, hsz, Array.extract_size] at this
    have := this.map (·.1)
    rwa [show ((toN es hw).toArray.toList).map (·.1) = es from toN_val es hw] at this
  · rw [List.pairwise_iff_getElem]
    intro i j hi hj hij
    simp only [List.length_map, Array.length_toList] at hi hj
    have := hs i j (Nat.zero_le _) hij (by rw [← hsz]; exact hj)
    rw [ltN, getElem!_pos d' j hj, getElem!_pos d' i hi] at this
    simpa using of_decide_eq_false this
  · show g < ((w.heap.modify g _) ++ os).size
    simp; omega
  · have hi' : i < d'.size := by simpa using hi
    have hK : Sort.HoldsK encN 22 (sortWorldK encN 22 w g 0 m d' os) g 0 d' :=
      Sort.holdsK_grow encN 22 _ os g 0 d' (by show g < (w.heap.modify g _).size; simpa using hg) (Sort.holdsK_putRowK encN 22 _ g 0 (toN es hw).toArray d' (Sort.holdsK_ahead encN 22 w m g 0 _ hH) hsz)
    have he : (d'.toList.map (·.1)).getD i default = (d'[i]!).1 := by
      rw [getElem!_pos d' i hi', List.getD_eq_getElem?_getD]
      simp [hi']
    rw [he] at hv
    have hl : (encN d'[i]!).length = 22 := erV_len _ (d'[i]!).2.2
    have hj : j < 22 := by
      obtain ⟨h1, _⟩ := List.getElem?_eq_some_iff.1 hv
      have : (erV (d'[i]!).1).length = 22 := hl
      omega
    have := (Sort.HoldsK.cell hK hi' hj).1
    rw [this]
    have hv' : (encN d'[i]!)[j]? = some v := hv
    rw [List.getElem?_eq_getElem (by omega)] at hv'
    rw [getElem!_pos _ _ (by omega)]
    exact hv'
theorem WfN.wf {es : List Er} (h : WfN es) : ∀ x ∈ es, x.id.length = 20 := fun x hx => (h x hx).2
set_option maxRecDepth 20000 in
theorem sortedFunc_any (Bs : Nat) (a : Option Addr) (cap : Nat) (es : List Er) (w : World) (hwf : WfE es) (hw : WfN es) (hP : Pe w a cap es) (hl : es.length ≤ 1000) (hbs : Boxed w Bs 72 (.slice a es.length cap)) :
    Calls Tryz.prog 53 #[.func (.func 73) #[] #[.pointer (some ⟨Bs, 0, none⟩)], .func (.func 55) #[] #[]] w (PostS w es) := by
  have HC : Hid (Calls Tryz.prog 71 #[.func (.func 73) #[] #[.pointer (some ⟨Bs, 0, none⟩)]] w (PostK w es)) := collect_any Bs a cap es w hwf hP hl hbs
  have HW : Hid (WfN es) := hw
  clear hwf hP hbs hw
  obtain ⟨n, HN⟩ : ∃ n, Hid (es.length = n) := ⟨_, rfl⟩
  have hn : n ≤ 1000 := by rw [← HN.out]; exact hl
  go_enter Tryz.func53, Tryz.ntmps53
  go_wp2_with fail
  refine HC.out.mono ?_
  rintro e w1 ⟨v, rfl, ho, hb⟩
  rw [HN.out] at ho
  obtain ⟨a1, c1, rfl⟩ := owns_shape ho
  have HO : Hid (w1.ownsRow w.heap.size 84 22 (.slice a1 n c1) n (fE es)) := ho
  have HB : Hid (Below w.heap.size w w1) := hb
  clear ho hb
  have C90 : Hid (Calls Tryz.prog 72 #[.slice a1 n c1, .func (.func 55) #[] #[]] w1 fun e w' => e = .returned (.tuple #[]) ∧ PostS w es (.returned (.slice a1 n c1)) w') := hid (by
    by_cases h0 : n = 0
    · have hes : es = [] := List.length_eq_zero_iff.1 (by rw [HN.out]; exact h0)
      have HO' := HO.out
      subst h0
      refine (sort_none a1 c1 _ w1).mono ?_
      rintro e w' ⟨rfl, rfl⟩
      refine ⟨rfl, a1, c1, [], by rw [HN.out], by rw [hes], List.Pairwise.nil, ⟨Nat.zero_le _, fun h => absurd h (by simp), fun h => ?_⟩, HB.out⟩
      obtain ⟨_, ⟨h1, _⟩ | ⟨g, cap', cur, h1, _⟩⟩ := HO'
      · cases h1; rfl
      · cases h1; cases h
    · obtain ⟨g, rfl⟩ : ∃ g, a1 = some ⟨g, 0, none⟩ := by
        obtain ⟨_, ⟨h1, h2⟩ | ⟨g, cap', cur, h1, _⟩⟩ := HO.out
        · exact absurd h2 h0
        · cases h1; exact ⟨g, rfl⟩
      have hg := HO.out.lt g rfl
      have hsz : (toN es HW.out).toArray.size = n := by rw [List.size_toArray, toN_len, HN.out]
      have := sort_any g 0 c1 (toN es HW.out).toArray w1 (holds_own HW.out HN.out HO.out) hg.2 (by rw [hsz]; exact hn)
      rw [hsz] at this
      refine this.mono ?_
      rintro e w' ⟨rfl, d', m, os, hp, hs, rfl⟩
      rw [← hsz] at hp hs
      obtain ⟨q1, q2, q3⟩ := sorted_post (w0 := w) HW.out HN.out HO.out d' m os hp hs
      exact ⟨rfl, _, c1, _, by rw [HN.out], q1, q2, q3, sortW_below HB.out (Nat.le_refl _) g m d' os hg.1⟩)
  go_wp2_with fail
  refine C90.out.mono ?_
  rintro e w2 ⟨rfl, hps⟩
  have HPS : Hid (PostS w es (.returned (.slice a1 n c1)) w2) := hps
  clear hps
  go_wp2
  go_ret
  exact HPS.out
end Go.Proofs.YtikmbjfambjmaaaGreatDoor
namespace Go.Proofs.YtikmbjfambjmaaaGreatDoor
open Go.RowKit
set_option linter.unusedVariables false
set_option linter.unusedSimpArgs false
theorem index_txt (s : List UInt8) (j : Nat) (w : World) (x : UInt8) (h : s[j]? = some x) : (Instr.index 9 (.string ⟨s.toArray⟩) (.int .i64 j)).run Tryz.prog w = .ok (.int .u8 (x.toNat : Int)) w := by
  obtain ⟨hj, hx⟩ := List.getElem?_eq_some_iff.1 h
  have hsz : (⟨s.toArray⟩ : ByteArray).size = s.length := by simp [ByteArray.size]
  rw [run_index_string (P := Tryz.prog) w 9 ⟨s.toArray⟩ .i64 j Tryz.underlying9, dif_pos ⟨by omega, by rw [hsz]; omega⟩]
  simp only [Int.toNat_natCast]
  rw [← hx]
  rfl
theorem take_snoc8 (s : List UInt8) (j : Nat) (x : UInt8) (h : s[j]? = some x) : s.take (j + 1) = s.take j ++ [x] := by
  rw [List.take_add_one, h]
  rfl
end Go.Proofs.YtikmbjfambjmaaaGreatDoor
namespace Go.Proofs.YtikmbjfambjmaaaGreatDoor
open Go.RowKit
set_option linter.unusedVariables false
set_option linter.unusedSimpArgs false
def badE (c : Int) : Prop := c = 0 ∨ c = 47
theorem badE_iff (x : UInt8) : ¬ badE (x.toNat : Int) ↔ (x ≠ 47 ∧ x ≠ 0) := by
  unfold badE
  constructor
  · intro h
    exact ⟨fun e => h (by rw [e]; right; rfl), fun e => h (by rw [e]; left; rfl)⟩
  · rintro ⟨h1, h2⟩ (h | h)
    · exact h2 (UInt8.toNat_inj.1 (by simpa using h))
    · exact h1 (UInt8.toNat_inj.1 (by show x.toNat = 47; omega))
set_option maxRecDepth 20000 in
theorem isName_any (s : List UInt8) (w : World) : Calls Tryz.prog 60 #[.string ⟨s.toArray⟩] w fun e w' => BIs (okE s) e ∧ w' = w := by
  by_cases hbad : s = [] ∨ s = [46] ∨ s = [46, 46] ∨ s = [46, 103, 105, 116]
  · have HOK : Hid (¬ okE s) := hid (by
      rintro ⟨h1, _, h3, h4, h5, _⟩
      rcases hbad with h | h | h | h
      · rw [h] at h1; exact absurd h1 (by decide)
      · exact h3 h
      · exact h4 h
      · exact h5 h)
    rcases hbad with rfl | rfl | rfl | rfl
    all_goals
      go_enter Tryz.func60, Tryz.ntmps60
      go_wp2
      go_ret
      exact ⟨bis_false HOK.out, rfl⟩
  · obtain ⟨S, HS⟩ : ∃ S : ByteArray, Hid (S = ⟨s.toArray⟩) := ⟨_, rfl⟩
    obtain ⟨n, HN⟩ : ∃ n, Hid (s.length = n) := ⟨_, rfl⟩
    have hsz : S.size = n := by rw [HS.out, ← HN.out]; simp [ByteArray.size]
    have n0 : s ≠ [] := fun h => hbad (Or.inl h)
    have n1 : s ≠ [46] := fun h => hbad (Or.inr (Or.inl h))
    have n2 : s ≠ [46, 46] := fun h => hbad (Or.inr (Or.inr (Or.inl h)))
    have n3 : s ≠ [46, 103, 105, 116] := fun h => hbad (Or.inr (Or.inr (Or.inr h)))
    have eS : S.toList = s := by rw [HS.out, Lib.toList_data]
    have e1 : (S.toList == [46]) = false := by rw [eS]; simpa using n1
    have e2 : (S.toList == [46, 46]) = false := by rw [eS]; simpa using n2
    have e3 : (S.toList == [46, 103, 105, 116]) = false := by rw [eS]; simpa using n3
    clear eS
    have hn1 : 1 ≤ n := by
      rw [← HN.out]
      rcases s with _ | ⟨x, s⟩
      · exact absurd rfl n0
      · simp
    have HQ : Hid (s ≠ [46] ∧ s ≠ [46, 46] ∧ s ≠ [46, 103, 105, 116]) := ⟨n1, n2, n3⟩
    have hi1 : ¬ (n : Int) < 1 := by omega
    rw [← HS.out]
    clear n0 n1 n2 n3 hbad
    by_cases h : n ≤ 50
    · have hi : ¬ (50 : Int) < (n : Int) := by omega
      go_enter Tryz.func60, Tryz.ntmps60
      go_wp2
      go_loopg [3] n (fun g i wr => ∃ j : Nat, j ≤ n ∧ g = n - j ∧ i = .int .i64 j ∧ Hid (∀ x ∈ s.take j, ¬ badE (x.toNat : Int)) ∧ Hid (wr = w))
      case atStart => exact ⟨0, by omega, rfl, rfl, hid (by simp), hid rfl⟩
      case round =>
        obtain ⟨j, hj, hk, rfl, HT, HW⟩ := hrel
        by_cases hlt : j < n
        · have hlti : (j : Int) < (n : Int) := by omega
          obtain ⟨x, hx⟩ : ∃ x, s[j]? = some x := ⟨_, List.getElem?_eq_getElem (by rw [HN.out]; exact hlt)⟩
          obtain ⟨c, HC⟩ : ∃ c, Hid ((x.toNat : Int) = c) := ⟨_, rfl⟩
          have HX : Hid (s[j]? = some x) := hx
          have hix : ∀ w1 : World, (Instr.index 9 (.string S) (.int .i64 j)).run Tryz.prog w1 = .ok (.int .u8 c) w1 := fun w1 => by rw [HS.out, ← HC.out]; exact index_txt s j w1 x HX.out
          clear hx
          by_cases hc : badE c
          · have HM : Hid (¬ okE s) := fun ht => (badE_iff x).2 (ht.2.2.2.2.2 x (List.mem_of_getElem? HX.out)) (by rw [HC.out]; exact hc)
            clear HC
            rcases hc with rfl | rfl
            all_goals
              go_wp2
              go_ret
              exact ⟨bis_false HM.out, HW.out⟩
          · have HBD : Hid (¬ badE c) := hc
            have b1 : (c == 0) = false := by simp; exact fun e => hc (.inl e)
            have b2 : (c == 47) = false := by simp; exact fun e => hc (.inr e)
            clear hc
            go_wp2
            go_roundg (n - (j + 1))
            case measure => omega
            case rel =>
              refine ⟨j + 1, by omega, rfl, by go_num, hid ?_, HW⟩
              rw [take_snoc8 s j x HX.out]
              intro y hy
              rcases List.mem_append.1 hy with hy | hy
              · exact HT.out y hy
              · have : y = x := by simpa using hy
                subst this
                rw [HC.out]
                exact HBD.out
        · have hlti : ¬ (j : Int) < (n : Int) := by omega
          have HOK : Hid (okE s) := hid (by
            have h1 := HT.out
            rw [List.take_of_length_le (by rw [HN.out]; omega)] at h1
            exact ⟨by rw [HN.out]; exact hn1, by rw [HN.out]; exact h, HQ.out.1, HQ.out.2.1, HQ.out.2.2, fun x hx => (badE_iff x).1 (h1 x hx)⟩)
          go_wp2
          go_ret
          exact ⟨bis_true HOK.out, HW.out⟩
    · have hi : (50 : Int) < (n : Int) := by omega
      have HOK : Hid (¬ okE s) := fun h2 => h (by rw [← HN.out]; exact h2.2.1)
      clear h
      go_enter Tryz.func60, Tryz.ntmps60
      go_wp2
      go_ret
      exact ⟨bis_false HOK.out, rfl⟩
end Go.Proofs.YtikmbjfambjmaaaGreatDoor
