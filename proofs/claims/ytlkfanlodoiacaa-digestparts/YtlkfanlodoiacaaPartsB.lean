/- The law 'DigestParts': its walk. -/
import Derived.Test.YtlkfanlodoiacaaPartsA
namespace Go.Proofs.Ytlkfanlodoiacaa
open Go.RowKit
set_option linter.unusedVariables false

/-- The parts that came in. -/
structure Parts (w : World) (pb po N : Nat) (a : Nat → Option Addr) (cap : Nat → Nat) (zs : Nat → List Int) : Prop where
  cell : ∀ j, j < N → w.cell? ⟨pb, po + j, none⟩ = some (.slice (a j) (zs j).length (cap j))
  lt : 0 < N → pb < w.heap.size
  isB : ∀ j, j < N → IsB (zs j)
  at_ : ∀ j, j < N → 0 < (zs j).length → ∃ b off, a j = some ⟨b, off, none⟩ ∧ b < w.heap.size ∧ At w b off (zs j) ∧ (zs j).length ≤ cap j
  nil : ∀ j, j < N → a j = none → cap j = 0
  len : ∀ j, j < N → (zs j).length ≤ 140737488355328
theorem Room.keep {w w' : World} {g : Nat} {zs : List Int} {r : Option Nat} (h : Room w g zs) (hg : w.grownBy w' r) (hr : some g ≠ r) : Room w' g zs :=
  ⟨Nat.lt_of_lt_of_le h.lt hg.size, fun i hi => (hg.cell_far ⟨g, i, none⟩ h.lt hr).trans (h.cell i hi), (hg.cell_far ⟨g, zs.length, none⟩ h.lt hr).trans h.c71, (hg.cell_far ⟨g, zs.length + 1, none⟩ h.lt hr).trans h.c72, fun i => (hg.frozen_far ⟨g, i, none⟩ h.lt hr).trans (h.fz i)⟩
theorem own_keep {w w' : World} {B : Nat} {v : Value} {n : Nat} {xs : List Value} {r : Option Nat} (h : w.ownsRow B 5 1 v n xs) (hg : w.grownBy w' r) (hr : ∀ k, r = some k → v.ownBlock ≠ some k) : w'.ownsRow B 5 1 v n xs := by
  refine h.kept hg ?_
  cases hv : v.ownBlock with
  | none => exact .inl rfl
  | some k => exact .inr fun e => hr k e.symm hv
theorem own_ne {w : World} {B k : Nat} {v : Value} {n : Nat} {xs : List Value} (h : w.ownsRow B 5 1 v n xs) (hk : k < B ∨ w.heap.size ≤ k) : v.ownBlock ≠ some k := fun e => by have := own_lt h k e; omega
theorem wrap64_add (m n : Nat) (h1 : m ≤ 1000000) (h2 : n ≤ 140737488355328) : wrap64 ((m : Int) + (n : Int)) = (m : Int) + (n : Int) := by
  unfold wrap64; omega
set_option maxRecDepth 20000 in
set_option maxHeartbeats 8000000 in
theorem walkP (pa : Option Addr) (pb po N pcap : Nat) (a : Nat → Option Addr) (cap : Nat → Nat) (zs : Nat → List Int) (w : World) (hN : N ≤ 1000) (hP : Parts w pb po N a cap zs) (hpa : 0 < N → pa = some ⟨pb, po, none⟩) :
    Calls Try.prog 4 #[.slice pa N pcap] w fun e w' => e = .returned (.bool true) ∧ Below w.heap.size w w' := by
  obtain ⟨zr, HZ⟩ : ∃ zr : Array Value, Hid (zr = (row .u8 z20).toArray) := ⟨_, rfl⟩
  have hz25 := zero25
  have hz24 := zero24
  rw [← HZ.out] at hz25 hz24
  have HPa : Hid (Parts w pb po N a cap zs) := hP
  have HPp : Hid (0 < N → pa = some ⟨pb, po, none⟩) := hpa
  clear hP hpa
  go_enter Try.func4, Try.ntmps4
  go_wp2_with fail
  refine (new_any w).mono ?_
  rintro e w1 ⟨rfl, hw1⟩
  have hs1 : w1.heap.size = w.heap.size + 1 := by rw [hw1]; simp
  have HD1 : Dig w1 w.heap.size [] := new_dig (by rw [hw1]; exact heap_alloc_new w _)
  have HB1 : Below w.heap.size w w1 := by rw [hw1]; exact (Below.refl _ w).alloc (Nat.le_refl _) _
  replace hw1 := hid hw1
  replace HD1 := hid HD1
  replace HB1 := hid HB1
  replace hs1 := hid hs1
  go_wp2_with fail
  refine (new_any w1).mono ?_
  rintro e w2 ⟨rfl, hw2⟩
  have HD2a : Hid (Dig w2 w.heap.size (fl zs 0)) := hid (HD1.out.keep (row := none) (by rw [hw2]; exact World.grownBy_alloc w1 _ none) (by simp))
  have HD2b : Hid (Dig w2 (w.heap.size + 1) (ev zs 0)) := hid (by rw [← hs1.out]; exact new_dig (by rw [hw2]; exact heap_alloc_new w1 _))
  have HB2 : Hid (Below w.heap.size w w2) := hid (by rw [hw2]; exact HB1.out.alloc (by have := hs1.out; omega) _)
  have hs2 : w.heap.size + 1 + 1 ≤ w2.heap.size := by rw [hw2]; simp; have := hs1.out; omega
  replace hw2 := hid hw2
  rw [hs1.out]
  go_wp2
  go_loopg [5, 6] N (fun g s i wr => ∃ (j : Nat) (ao : Option Addr) (cp : Nat), j ≤ N ∧ g = N - j ∧ i = .int .i64 j ∧ s = .slice ao ((fl zs j).length : Nat) cp ∧ (fl zs j).length ≤ 20000 ∧ Hid (wr.ownsRow (w.heap.size + 1 + 1) 5 1 (.slice ao ((fl zs j).length : Nat) cp) (fl zs j).length (row .u8 (fl zs j))) ∧ Hid (Dig wr w.heap.size (fl zs j)) ∧ Hid (Dig wr (w.heap.size + 1) (ev zs j)) ∧ Hid (Below w.heap.size w wr) ∧ w.heap.size + 1 + 1 ≤ wr.heap.size)
  case atStart => exact ⟨0, none, 0, by omega, rfl, rfl, rfl, by simp [fl], World.ownsRow_nil _ _ _ _, HD2a, HD2b, HB2, hs2⟩
  case round =>
    clear hs2 HD2a HD2b HB2 hw2 HD1 HB1 hw1
    obtain ⟨j, ao, cp, hj, hg, rfl, rfl, hn2, HO, HDa, HDb, HB, hsr⟩ := hrel
    obtain ⟨ls, HLs⟩ : ∃ ls, Hid (ls = fl zs j) := ⟨_, rfl⟩
    obtain ⟨es, HEs⟩ : ∃ es, Hid (es = ev zs j) := ⟨_, rfl⟩
    rw [← HLs.out] at hn2 HO HDa
    rw [← HLs.out]
    rw [← HEs.out] at HDb
    have hlsb : IsB ls := by rw [HLs.out]; exact fl_isB zs N HPa.out.isB j hj
    have hesb : IsB es := by rw [HEs.out]; exact ev_isB zs N HPa.out.isB j hj
    have hesl : es.length ≤ 20000 := by have := ev_len zs j; rw [← HLs.out, ← HEs.out] at this; omega
    by_cases hlt : j < N
    · obtain ⟨A, HA⟩ : ∃ A, Hid (A = a j) := ⟨_, rfl⟩
      obtain ⟨C, HC⟩ : ∃ C, Hid (C = cap j) := ⟨_, rfl⟩
      obtain ⟨Z, HZs⟩ : ∃ Z, Hid (Z = zs j) := ⟨_, rfl⟩
      have hpa := HPp.out (by omega)
      subst hpa
      have hpb : pb < w.heap.size := HPa.out.lt (by omega)
      have hZb : IsB Z := by rw [HZs.out]; exact HPa.out.isB j hlt
      have hZm : Hid (Z.length ≤ 140737488355328) := hid (by rw [HZs.out]; exact HPa.out.len j hlt)
      have hw64 : wrap64 ((ls.length : Int) + (Z.length : Int)) = (ls.length : Int) + (Z.length : Int) := wrap64_add _ _ (by omega) hZm.out
      have HCl : Hid (∀ wv, Below w.heap.size w wv → wv.cell? ⟨pb, po + j, none⟩ = some (.slice A Z.length C)) := fun wv h => by rw [HA.out, HC.out, HZs.out]; exact (h.cell (p := ⟨pb, po + j, none⟩) hpb).trans (HPa.out.cell j hlt)
      have HAt : Hid (∀ wv, Below w.heap.size w wv → 0 < Z.length → ∃ b off, A = some ⟨b, off, none⟩ ∧ b < w.heap.size ∧ At wv b off Z ∧ Z.length ≤ C) := fun wv h h0 => by
        rw [HZs.out] at h0
        obtain ⟨b, off, h1, h2, h3, h4⟩ := HPa.out.at_ j hlt h0
        exact ⟨b, off, by rw [HA.out]; exact h1, h2, by rw [HZs.out]; exact fun i hi => (h.cell (p := ⟨b, off + i, none⟩) h2).trans (h3 i hi), by rw [HC.out, HZs.out]; exact h4⟩
      have hcl := HCl.out wr HB.out
      by_cases hbig : 20000 < ls.length + Z.length
      · have hbI : (20000 : Int) < (ls.length : Int) + (Z.length : Int) := by omega
        go_wp2
        go_ret
        exact ⟨rfl, HB.out⟩
      · have hbI : (ls.length : Int) + (Z.length : Int) ≤ 20000 := by omega
        have hZ2 : Z.length ≤ 20000 := by omega
        have hls2 : ls.length + Z.length ≤ 20000 := by omega
        obtain ⟨tl, HTL⟩ : ∃ tl, Hid (tl = ls ++ Z) := ⟨_, rfl⟩
        have htl : Hid (tl.length = ls.length + Z.length) := hid (by rw [HTL.out, List.length_append])
        have htb : IsB tl := by rw [HTL.out]; exact hlsb.app hZb
        have HFl : Hid (fl zs (j + 1) = tl) := hid (by rw [HTL.out, HLs.out, HZs.out]; rfl)
        clear hw64 hbI
        go_wp2_with fail
        refine (roomy_any A C Z wr (by omega) (fun h => by obtain ⟨b, off, h1, h2, h3, h4⟩ := HAt.out wr HB.out h; exact ⟨b, off, h1, by omega, h3⟩)).mono ?_
        rintro e w3 ⟨rfl, hb3, hr3⟩
        have hs3 := hb3.size
        have HB3 : Hid (Below w.heap.size w w3) := HB.out.trans (hb3.mono (by omega))
        have D3a : Dig w3 w.heap.size ls := HDa.out.keep (grown_of_below hb3 none) (by simp)
        have D3b : Hid (Dig w3 (w.heap.size + 1) es) := HDb.out.keep (grown_of_below hb3 none) (by simp)
        have O3 : Hid (w3.ownsRow (w.heap.size + 1 + 1) 5 1 (.slice ao (ls.length : Nat) cp) ls.length (row .u8 ls)) := own_keep HO.out (grown_of_below hb3 none) (fun k hk => by cases hk)
        have NE : Hid (∀ k, k < w.heap.size + 1 + 1 ∨ wr.heap.size ≤ k → (Value.slice ao (ls.length : Nat) cp).ownBlock ≠ some k) := fun k hk => own_ne HO.out hk
        have R3 : Hid (Room w3 wr.heap.size Z) := hr3
        have at3 : At w3 wr.heap.size 0 Z := fun i hi => by rw [Nat.zero_add]; exact hr3.cell i hi
        have lt3 := hr3.lt
        clear hb3 hr3
        go_wp2_with fail
        refine (add_any w.heap.size ls (some ⟨wr.heap.size, 0, none⟩) (Z.length + 2) Z w3 D3a (by omega) hlsb hZb (fun _ => ⟨wr.heap.size, 0, rfl, lt3, by omega, at3, by omega⟩)).mono ?_
        rintro e w4 ⟨rfl, D4a, hg4⟩
        rw [← HTL.out] at D4a
        have hs4 := hg4.size
        have R4 : Hid (Room w4 wr.heap.size Z) := R3.out.keep hg4 (by simp; omega)
        have D4b : Hid (Dig w4 (w.heap.size + 1) es) := D3b.out.keep hg4 (by simp)
        have O4 : Hid (w4.ownsRow (w.heap.size + 1 + 1) 5 1 (.slice ao (ls.length : Nat) cp) ls.length (row .u8 ls)) := own_keep O3.out hg4 (fun k hk => by cases hk; exact NE.out _ (.inl (by omega)))
        have HB4 : Hid (Below w.heap.size w w4) := HB3.out.grown hg4 (by omega) (fun k hk => by cases hk; omega)
        have hcl4 := HCl.out w4 HB4.out
        replace D4a := hid D4a
        clear hg4 D3a at3
        go_wp2_with fail
        refine (still_keep A C wr.heap.size Z w4 (by omega) hZb R4.out (fun h => by obtain ⟨b, off, h1, h2, h3, h4⟩ := HAt.out w4 HB4.out h; exact ⟨b, off, h1, by omega, h3⟩)).mono ?_
        rintro e w5 ⟨rfl, hg5⟩
        have hs5 := hg5.size
        have D5a : Hid (Dig w5 w.heap.size tl) := D4a.out.keep hg5 (by simp; omega)
        have D5b : Hid (Dig w5 (w.heap.size + 1) es) := D4b.out.keep hg5 (by simp; omega)
        have O5 : Hid (w5.ownsRow (w.heap.size + 1 + 1) 5 1 (.slice ao (ls.length : Nat) cp) ls.length (row .u8 ls)) := own_keep O4.out hg5 (fun k hk => by cases hk; exact NE.out _ (.inr (by omega)))
        have HB5 : Hid (Below w.heap.size w w5) := HB4.out.grown hg5 (by omega) (fun k hk => by cases hk; omega)
        have hcl5 := HCl.out w5 HB5.out
        obtain ⟨w6, ao2, cp2, hrun6, hown6, hg6⟩ := append_more ao ls.length cp ls A C Z w5 (w.heap.size + 1 + 1) (by omega) O5.out (by omega) (fun h => by rw [HC.out]; exact HPa.out.nil j hlt (by rw [← HA.out]; exact h)) (fun h => by obtain ⟨b, off, h1, h2, h3, h4⟩ := HAt.out w5 HB5.out h; exact ⟨b, off, h1, h3⟩)
        rw [← HTL.out, ← htl.out] at hown6
        rw [← htl.out] at hrun6
        have hs6 := hg6.size
        have D6a : Hid (Dig w6 w.heap.size tl) := D5a.out.keep hg6 (fun e => NE.out _ (.inl (by omega)) e.symm)
        have D6b : Hid (Dig w6 (w.heap.size + 1) es) := D5b.out.keep hg6 (fun e => NE.out _ (.inl (by omega)) e.symm)
        have HB6 : Hid (Below w.heap.size w w6) := HB5.out.grown hg6 (by omega) (fun k hk => by
          rcases Nat.lt_or_ge k w.heap.size with h | h
          · exact absurd hk (NE.out k (.inl (by omega)))
          · exact h)
        have hcl6 := HCl.out w6 HB6.out
        replace hown6 := hid hown6
        have hsz6 : w.heap.size + 1 + 1 ≤ w6.heap.size := by omega
        clear hg5 hg6 hcl hcl4
        by_cases par : j % 2 = 0
        · have hp1 : (j : Int) % 2 = 0 := by omega
          have hp2 : ((j : Int) % 2 == 0) = true := by simpa using hp1
          go_wp2_with (refine wpList_append_run rfl _ _ 22 rfl (.slice ao ls.length cp) (.slice A Z.length C) _ _ rfl rfl hrun6 ?_)
          obtain ⟨e2, HE2⟩ : ∃ e2, Hid (e2 = es ++ Z) := ⟨_, rfl⟩
          have HEv : Hid (ev zs (j + 1) = e2) := hid (by rw [HE2.out, HEs.out, HZs.out, ev, if_pos par])
          refine (add_any (w.heap.size + 1) es A C Z w6 D6b.out (by omega) hesb hZb (fun h => by obtain ⟨b, off, h1, h2, h3, h4⟩ := HAt.out w6 HB6.out h; exact ⟨b, off, h1, by omega, by omega, h3, h4⟩)).mono ?_
          rintro e w7 ⟨rfl, D7b, hg7⟩
          rw [← HE2.out] at D7b
          have hs7 := hg7.size
          have D7a : Hid (Dig w7 w.heap.size tl) := D6a.out.keep hg7 (by simp)
          have O7 : Hid (w7.ownsRow (w.heap.size + 1 + 1) 5 1 (.slice ao2 (tl.length : Nat) cp2) tl.length (row .u8 tl)) := own_keep hown6.out hg7 (fun k hk => by cases hk; exact own_ne hown6.out (.inl (by omega)))
          have HB7 : Hid (Below w.heap.size w w7) := HB6.out.grown hg7 (by omega) (fun k hk => by cases hk; omega)
          have hsz7 : w.heap.size + 1 + 1 ≤ w7.heap.size := by omega
          replace D7b := hid D7b
          clear hp1 hp2 hg7 hs7 hrun6 hcl5 hcl6
          go_wp2_with fail
          refine (sum_any w.heap.size tl w7 D7a.out (by have := htl.out; omega) htb).mono ?_
          rintro e w8 ⟨rfl, hb8⟩
          have hs8 := hb8.size
          obtain ⟨fr, HE⟩ : ∃ fr, Hid (fr = sha tl) := ⟨_, rfl⟩
          rw [← HE.out]
          have hfl : fr.length = 20 := by rw [HE.out]; exact sha_len _
          have hi25 : (Try.prog.info? 25).map (·.size) = some (row .u8 fr).length := by rw [row_len, hfl]; exact Try.size25
          have hi24 : (Try.prog.info? 24).map (·.size) = some (row .u8 fr).length := by rw [row_len, hfl]; exact Try.size24
          have T2 : Hid ((Try.prog.info? 25).map (·.size) = some (row .u8 fr).toArray.size) := hid (by rw [row_size, hfl]; exact Try.size25)
          have T2' : Hid ((Try.prog.info? 24).map (·.size) = some (row .u8 fr).toArray.size) := hid (by rw [row_size, hfl]; exact Try.size24)
          have T3 : Hid ((row .u8 fr).toArray.all (·.oneCell') = true) := all_oneCell_toArray (row_one _ _)
          have hsm := same25 fr hfl
          have HT : Hid ((w8.alloc (.cells zr 25)).there w8.heap.size 0 (row .u8 fr).toArray.size) := hid (by rw [row_size, hfl, HZ.out]; exact there_row (heap_alloc_new w8 _) rfl)
          obtain ⟨w9, HW9⟩ : ∃ w9, Hid (w9 = (w8.alloc (.cells zr 25)).setCells w8.heap.size 0 (row .u8 fr).toArray.toList) := ⟨_, rfl⟩
          have HX9 : Hid (Below w7.heap.size w7 w9) := hid (by rw [HW9.out]; exact below_setCells (by omega) _ _ _ _ (hb8.alloc (by omega) _))
          have HS9 : Hid (w9.rangeAt w8.heap.size 0 (row .u8 fr)) := hid (by rw [HW9.out]; exact World.rangeAt_setCells_same _ w8.heap.size 0 _ (by have := HT.out; simpa using this))
          have hz9 : Hid (w9.heap.size = w8.heap.size + 1) := hid (by rw [HW9.out, size_setCells]; simp)
          have O9 : Hid (w9.ownsRow (w.heap.size + 1 + 1) 5 1 (.slice ao2 (tl.length : Nat) cp2) tl.length (row .u8 tl)) := own_keep O7.out (grown_of_below HX9.out none) (fun k hk => by cases hk)
          have D9a : Hid (Dig w9 w.heap.size tl) := D7a.out.keep (grown_of_below HX9.out none) (by simp)
          have D9b : Hid (Dig w9 (w.heap.size + 1) e2) := D7b.out.keep (grown_of_below HX9.out none) (by simp)
          have HB9 : Hid (Below w.heap.size w w9) := HB7.out.trans (HX9.out.mono (by omega))
          clear hb8
          go_wp2_with (refine wpList_store_mid rfl 25 _ _ rfl w8.heap.size 0 (row .u8 fr).toArray rfl rfl HT.out T2.out T3.out ?_; rw [← HW9.out])
          refine (ref_any ao2 cp2 tl w9 (by have := htl.out; omega) htb (fun h => by
            obtain ⟨g, c, hf, h1, h2⟩ := O9.out.form h
            simp only [Value.slice.injEq] at hf
            obtain ⟨hf1, -, hf2⟩ := hf
            subst hf1
            exact ⟨g, 0, rfl, h2, fun i hi => by rw [Nat.zero_add, O9.out.cellAt i (by omega), row_at .u8 tl i hi]⟩)).mono ?_
          rintro e w10 ⟨rfl, hb10⟩
          have hs10 := hb10.size
          have hz9' := hz9.out
          rw [← HE.out]
          have HT11 : Hid ((w10.alloc (.cells zr 24)).there w10.heap.size 0 (row .u8 fr).toArray.size) := hid (by rw [row_size, hfl, HZ.out]; exact there_row (heap_alloc_new w10 _) rfl)
          obtain ⟨w11, HW11⟩ : ∃ w11, Hid (w11 = (w10.alloc (.cells zr 24)).setCells w10.heap.size 0 (row .u8 fr).toArray.toList) := ⟨_, rfl⟩
          have HX11 : Hid (Below w9.heap.size w9 w11) := hid (by rw [HW11.out]; exact below_setCells (by omega) _ _ _ _ (hb10.alloc (by omega) _))
          have HS11 : w11.rangeAt w10.heap.size 0 (row .u8 fr) := by rw [HW11.out]; exact World.rangeAt_setCells_same _ w10.heap.size 0 _ (by have := HT11.out; simpa using this)
          have HQ11 : w11.rangeAt w8.heap.size 0 (row .u8 fr) := fun i v hv => (HX11.out.cell (p := ⟨w8.heap.size, 0 + i, none⟩) (by show w8.heap.size < _; omega)).trans (HS9.out i v hv)
          have hz11 : Hid (w10.heap.size < w11.heap.size) := hid (by rw [HW11.out, size_setCells]; simp)
          have O11 : Hid (w11.ownsRow (w.heap.size + 1 + 1) 5 1 (.slice ao2 (tl.length : Nat) cp2) tl.length (row .u8 tl)) := own_keep O9.out (grown_of_below HX11.out none) (fun k hk => by cases hk)
          have D11a : Hid (Dig w11 w.heap.size tl) := D9a.out.keep (grown_of_below HX11.out none) (by simp)
          have D11b : Hid (Dig w11 (w.heap.size + 1) e2) := D9b.out.keep (grown_of_below HX11.out none) (by simp)
          have HB11 : Hid (Below w.heap.size w w11) := HB9.out.trans (HX11.out.mono (by omega))
          have hsz11 : w.heap.size + 1 + 1 ≤ w11.heap.size := by have := hz11.out; omega
          clear hb10 hz9'
          go_wp2_with (first
            | (refine wpList_store_mid rfl 24 _ _ rfl w10.heap.size 0 (row .u8 fr).toArray rfl rfl HT11.out T2'.out T3.out ?_; rw [← HW11.out])
            | (refine BigFrame.wpList_want (by rfl) (fun K hK => ?_); refine wp_load_mid 25 _ rfl w8.heap.size 0 rfl (row .u8 fr) _ HQ11 Try.underlying25 rfl hi25 ?_; refine hK _ _ ?_; clear hK K)
            | (refine BigFrame.wpList_want (by rfl) (fun K hK => ?_); refine wp_load_mid 24 _ rfl w10.heap.size 0 rfl (row .u8 fr) _ HS11 Try.underlying24 rfl hi24 ?_; refine hK _ _ ?_; clear hK K))
          go_roundg (N - (j + 1))
          case measure => omega
          case rel => exact ⟨j + 1, ao2, cp2, by omega, rfl, by go_num, by rw [HFl.out], by rw [HFl.out, htl.out]; omega, by rw [HFl.out]; exact O11, by rw [HFl.out]; exact D11a, by rw [HEv.out]; exact D11b, HB11, hsz11⟩
        · have hp1 : (j : Int) % 2 ≠ 0 := by omega
          have hp2 : ((j : Int) % 2 == 0) = false := by simpa using hp1
          go_wp2_with (refine wpList_append_run rfl _ _ 22 rfl (.slice ao ls.length cp) (.slice A Z.length C) _ _ rfl rfl hrun6 ?_)
          obtain ⟨e2, HE2⟩ : ∃ e2, Hid (e2 = es) := ⟨_, rfl⟩
          have HEv : Hid (ev zs (j + 1) = e2) := hid (by rw [HE2.out, HEs.out, ev, if_neg par])
          have D7b : Hid (Dig w6 (w.heap.size + 1) e2) := hid (by rw [HE2.out]; exact D6b.out)
          obtain ⟨w7, rfl⟩ : ∃ w7, w7 = w6 := ⟨_, rfl⟩
          have D7a := D6a
          have O7 := hown6
          have HB7 := HB6
          have hsz7 := hsz6
          clear hp1 hp2 hrun6 hcl5 hcl6
          refine (sum_any w.heap.size tl w7 D7a.out (by have := htl.out; omega) htb).mono ?_
          rintro e w8 ⟨rfl, hb8⟩
          have hs8 := hb8.size
          obtain ⟨fr, HE⟩ : ∃ fr, Hid (fr = sha tl) := ⟨_, rfl⟩
          rw [← HE.out]
          have hfl : fr.length = 20 := by rw [HE.out]; exact sha_len _
          have hi25 : (Try.prog.info? 25).map (·.size) = some (row .u8 fr).length := by rw [row_len, hfl]; exact Try.size25
          have hi24 : (Try.prog.info? 24).map (·.size) = some (row .u8 fr).length := by rw [row_len, hfl]; exact Try.size24
          have T2 : Hid ((Try.prog.info? 25).map (·.size) = some (row .u8 fr).toArray.size) := hid (by rw [row_size, hfl]; exact Try.size25)
          have T2' : Hid ((Try.prog.info? 24).map (·.size) = some (row .u8 fr).toArray.size) := hid (by rw [row_size, hfl]; exact Try.size24)
          have T3 : Hid ((row .u8 fr).toArray.all (·.oneCell') = true) := all_oneCell_toArray (row_one _ _)
          have hsm := same25 fr hfl
          have HT : Hid ((w8.alloc (.cells zr 25)).there w8.heap.size 0 (row .u8 fr).toArray.size) := hid (by rw [row_size, hfl, HZ.out]; exact there_row (heap_alloc_new w8 _) rfl)
          obtain ⟨w9, HW9⟩ : ∃ w9, Hid (w9 = (w8.alloc (.cells zr 25)).setCells w8.heap.size 0 (row .u8 fr).toArray.toList) := ⟨_, rfl⟩
          have HX9 : Hid (Below w7.heap.size w7 w9) := hid (by rw [HW9.out]; exact below_setCells (by omega) _ _ _ _ (hb8.alloc (by omega) _))
          have HS9 : Hid (w9.rangeAt w8.heap.size 0 (row .u8 fr)) := hid (by rw [HW9.out]; exact World.rangeAt_setCells_same _ w8.heap.size 0 _ (by have := HT.out; simpa using this))
          have hz9 : Hid (w9.heap.size = w8.heap.size + 1) := hid (by rw [HW9.out, size_setCells]; simp)
          have O9 : Hid (w9.ownsRow (w.heap.size + 1 + 1) 5 1 (.slice ao2 (tl.length : Nat) cp2) tl.length (row .u8 tl)) := own_keep O7.out (grown_of_below HX9.out none) (fun k hk => by cases hk)
          have D9a : Hid (Dig w9 w.heap.size tl) := D7a.out.keep (grown_of_below HX9.out none) (by simp)
          have D9b : Hid (Dig w9 (w.heap.size + 1) e2) := D7b.out.keep (grown_of_below HX9.out none) (by simp)
          have HB9 : Hid (Below w.heap.size w w9) := HB7.out.trans (HX9.out.mono (by omega))
          clear hb8
          go_wp2_with (refine wpList_store_mid rfl 25 _ _ rfl w8.heap.size 0 (row .u8 fr).toArray rfl rfl HT.out T2.out T3.out ?_; rw [← HW9.out])
          refine (ref_any ao2 cp2 tl w9 (by have := htl.out; omega) htb (fun h => by
            obtain ⟨g, c, hf, h1, h2⟩ := O9.out.form h
            simp only [Value.slice.injEq] at hf
            obtain ⟨hf1, -, hf2⟩ := hf
            subst hf1
            exact ⟨g, 0, rfl, h2, fun i hi => by rw [Nat.zero_add, O9.out.cellAt i (by omega), row_at .u8 tl i hi]⟩)).mono ?_
          rintro e w10 ⟨rfl, hb10⟩
          have hs10 := hb10.size
          have hz9' := hz9.out
          rw [← HE.out]
          have HT11 : Hid ((w10.alloc (.cells zr 24)).there w10.heap.size 0 (row .u8 fr).toArray.size) := hid (by rw [row_size, hfl, HZ.out]; exact there_row (heap_alloc_new w10 _) rfl)
          obtain ⟨w11, HW11⟩ : ∃ w11, Hid (w11 = (w10.alloc (.cells zr 24)).setCells w10.heap.size 0 (row .u8 fr).toArray.toList) := ⟨_, rfl⟩
          have HX11 : Hid (Below w9.heap.size w9 w11) := hid (by rw [HW11.out]; exact below_setCells (by omega) _ _ _ _ (hb10.alloc (by omega) _))
          have HS11 : w11.rangeAt w10.heap.size 0 (row .u8 fr) := by rw [HW11.out]; exact World.rangeAt_setCells_same _ w10.heap.size 0 _ (by have := HT11.out; simpa using this)
          have HQ11 : w11.rangeAt w8.heap.size 0 (row .u8 fr) := fun i v hv => (HX11.out.cell (p := ⟨w8.heap.size, 0 + i, none⟩) (by show w8.heap.size < _; omega)).trans (HS9.out i v hv)
          have hz11 : Hid (w10.heap.size < w11.heap.size) := hid (by rw [HW11.out, size_setCells]; simp)
          have O11 : Hid (w11.ownsRow (w.heap.size + 1 + 1) 5 1 (.slice ao2 (tl.length : Nat) cp2) tl.length (row .u8 tl)) := own_keep O9.out (grown_of_below HX11.out none) (fun k hk => by cases hk)
          have D11a : Hid (Dig w11 w.heap.size tl) := D9a.out.keep (grown_of_below HX11.out none) (by simp)
          have D11b : Hid (Dig w11 (w.heap.size + 1) e2) := D9b.out.keep (grown_of_below HX11.out none) (by simp)
          have HB11 : Hid (Below w.heap.size w w11) := HB9.out.trans (HX11.out.mono (by omega))
          have hsz11 : w.heap.size + 1 + 1 ≤ w11.heap.size := by have := hz11.out; omega
          clear hb10 hz9'
          go_wp2_with (first
            | (refine wpList_store_mid rfl 24 _ _ rfl w10.heap.size 0 (row .u8 fr).toArray rfl rfl HT11.out T2'.out T3.out ?_; rw [← HW11.out])
            | (refine BigFrame.wpList_want (by rfl) (fun K hK => ?_); refine wp_load_mid 25 _ rfl w8.heap.size 0 rfl (row .u8 fr) _ HQ11 Try.underlying25 rfl hi25 ?_; refine hK _ _ ?_; clear hK K)
            | (refine BigFrame.wpList_want (by rfl) (fun K hK => ?_); refine wp_load_mid 24 _ rfl w10.heap.size 0 rfl (row .u8 fr) _ HS11 Try.underlying24 rfl hi24 ?_; refine hK _ _ ?_; clear hK K))
          go_roundg (N - (j + 1))
          case measure => omega
          case rel => exact ⟨j + 1, ao2, cp2, by omega, rfl, by go_num, by rw [HFl.out], by rw [HFl.out, htl.out]; omega, by rw [HFl.out]; exact O11, by rw [HFl.out]; exact D11a, by rw [HEv.out]; exact D11b, HB11, hsz11⟩
    · obtain rfl : j = N := by omega
      have HE0 : Hid (es = ev zs j) := HEs.out
      have hfl20 : (fl zs j).length ≤ 20000 := by rw [← HLs.out]; exact hn2
      replace hfl20 := hid hfl20
      have HOw : Hid (wr.heap.size = wr.heap.size) := rfl
      obtain ⟨wq, rfl⟩ : ∃ wq, wq = wr := ⟨_, rfl⟩
      go_wp2
      go_loopg [11, 12] (j + 2) (fun g s i wr => ∃ (k : Nat) (ao2 : Option Addr) (cp2 : Nat), k ≤ j + 1 ∧ k % 2 = 0 ∧ g = j + 2 - k ∧ i = .int .i64 k ∧ s = .slice ao2 ((ev zs k).length : Nat) cp2 ∧ Hid (wr.ownsRow (w.heap.size + 1 + 1) 5 1 (.slice ao2 ((ev zs k).length : Nat) cp2) (ev zs k).length (row .u8 (ev zs k))) ∧ Hid (Dig wr (w.heap.size + 1) es) ∧ Hid (Below w.heap.size w wr) ∧ w.heap.size + 1 + 1 ≤ wr.heap.size)
      case atStart => exact ⟨0, none, 0, by omega, rfl, rfl, rfl, rfl, World.ownsRow_nil _ _ _ _, HDb, HB, hsr⟩
      case round =>
        clear HDb HDa HO HB hsr
        obtain ⟨k, ao2, cp2, hk, hk2, hg2, rfl, rfl, HO, HDb, HB, hsr⟩ := hrel
        obtain ⟨ms, HMs⟩ : ∃ ms, Hid (ms = ev zs k) := ⟨_, rfl⟩
        rw [← HMs.out] at HO
        rw [← HMs.out]
        by_cases hlt : k < j
        · obtain ⟨A, HA⟩ : ∃ A, Hid (A = a k) := ⟨_, rfl⟩
          obtain ⟨C, HC⟩ : ∃ C, Hid (C = cap k) := ⟨_, rfl⟩
          obtain ⟨Z, HZs⟩ : ∃ Z, Hid (Z = zs k) := ⟨_, rfl⟩
          have hpa := HPp.out (by omega)
          subst hpa
          have hpb : pb < w.heap.size := HPa.out.lt (by omega)
          have hcl : wr.cell? ⟨pb, po + k, none⟩ = some (.slice A Z.length C) := by rw [HA.out, HC.out, HZs.out]; exact (HB.out.cell (p := ⟨pb, po + k, none⟩) hpb).trans (HPa.out.cell k hlt)
          have HEv : Hid (ev zs (k + 2) = ms ++ Z) := hid (by rw [ev, if_neg (by omega), ev, if_pos hk2, HMs.out, HZs.out])
          have hlen2 : ms.length + Z.length ≤ 20000 := by
            have h1 := ev_len zs (k + 1)
            have h2 := fl_mono zs (k + 1) j (by omega)
            have h3 := hfl20.out
            have h4 : (ev zs (k + 1)).length = ms.length + Z.length := by rw [ev, if_pos hk2, List.length_append, HMs.out, HZs.out]
            omega
          obtain ⟨w6, ao3, cp3, hrun6, hown6, hg6⟩ := append_more ao2 ms.length cp2 ms A C Z wr (w.heap.size + 1 + 1) (by omega) HO.out (by omega) (fun h => by rw [HC.out]; exact HPa.out.nil k hlt (by rw [← HA.out]; exact h)) (fun h => by
            rw [HZs.out] at h
            obtain ⟨b, off, h1, h2, h3, h4⟩ := HPa.out.at_ k hlt h
            exact ⟨b, off, by rw [HA.out]; exact h1, by rw [HZs.out]; exact fun i hi => (HB.out.cell (p := ⟨b, off + i, none⟩) h2).trans (h3 i hi)⟩)
          have hs6 := hg6.size
          have NE : ∀ q, q < w.heap.size + 1 + 1 → (Value.slice ao2 (ms.length : Nat) cp2).ownBlock ≠ some q := fun q hq => own_ne HO.out (.inl hq)
          have D6b : Hid (Dig w6 (w.heap.size + 1) es) := HDb.out.keep hg6 (fun e => NE _ (by omega) e.symm)
          have HB6 : Hid (Below w.heap.size w w6) := HB.out.grown hg6 (by omega) (fun q hq => by
            rcases Nat.lt_or_ge q w.heap.size with h | h
            · exact absurd hq (NE q (by omega))
            · exact h)
          obtain ⟨M, HMM⟩ : ∃ M, Hid (M = ms.length + Z.length) := ⟨_, rfl⟩
          rw [← HMM.out] at hrun6 hown6
          have HM2 : Hid ((ev zs (k + 2)).length = M) := hid (by rw [HEv.out, List.length_append]; exact HMM.out.symm)
          have hsz6 : w.heap.size + 1 + 1 ≤ w6.heap.size := by omega
          replace hown6 := hid hown6
          clear hg6 hs6 NE
          go_wp2_with (refine wpList_append_run rfl _ _ 22 rfl (.slice ao2 ms.length cp2) (.slice A Z.length C) _ _ rfl rfl hrun6 ?_)
          go_roundg (j + 2 - (k + 2))
          case measure => omega
          case rel => exact ⟨k + 2, ao3, cp3, by omega, by omega, rfl, by go_num, by rw [HM2.out], hid (by rw [HM2.out, HEv.out]; exact hown6.out), D6b, HB6, hsz6⟩
        · have HEe : Hid (ms = es) := hid (by
            rw [HMs.out, HE0.out]
            rcases (by omega : k = j ∨ k = j + 1) with rfl | rfl
            · rfl
            · rw [ev, if_neg (by omega)])
          have hmse := HEe.out
          subst hmse
          go_wp2_with fail
          refine (sum_any (w.heap.size + 1) ms wr HDb.out (by omega) hesb).mono ?_
          rintro e w8 ⟨rfl, hb8⟩
          have hs8 := hb8.size
          obtain ⟨fr, HE⟩ : ∃ fr, Hid (fr = sha ms) := ⟨_, rfl⟩
          rw [← HE.out]
          have hfl : fr.length = 20 := by rw [HE.out]; exact sha_len _
          have hi25 : (Try.prog.info? 25).map (·.size) = some (row .u8 fr).length := by rw [row_len, hfl]; exact Try.size25
          have hi24 : (Try.prog.info? 24).map (·.size) = some (row .u8 fr).length := by rw [row_len, hfl]; exact Try.size24
          have T2 : Hid ((Try.prog.info? 25).map (·.size) = some (row .u8 fr).toArray.size) := hid (by rw [row_size, hfl]; exact Try.size25)
          have T2' : Hid ((Try.prog.info? 24).map (·.size) = some (row .u8 fr).toArray.size) := hid (by rw [row_size, hfl]; exact Try.size24)
          have T3 : Hid ((row .u8 fr).toArray.all (·.oneCell') = true) := all_oneCell_toArray (row_one _ _)
          have hsm := same25 fr hfl
          have HT : Hid ((w8.alloc (.cells zr 25)).there w8.heap.size 0 (row .u8 fr).toArray.size) := hid (by rw [row_size, hfl, HZ.out]; exact there_row (heap_alloc_new w8 _) rfl)
          obtain ⟨w9, HW9⟩ : ∃ w9, Hid (w9 = (w8.alloc (.cells zr 25)).setCells w8.heap.size 0 (row .u8 fr).toArray.toList) := ⟨_, rfl⟩
          have HX9 : Hid (Below wr.heap.size wr w9) := hid (by rw [HW9.out]; exact below_setCells (by omega) _ _ _ _ (hb8.alloc (by omega) _))
          have HS9 : Hid (w9.rangeAt w8.heap.size 0 (row .u8 fr)) := hid (by rw [HW9.out]; exact World.rangeAt_setCells_same _ w8.heap.size 0 _ (by have := HT.out; simpa using this))
          have hz9 : Hid (w9.heap.size = w8.heap.size + 1) := hid (by rw [HW9.out, size_setCells]; simp)
          have O9 : Hid (w9.ownsRow (w.heap.size + 1 + 1) 5 1 (.slice ao2 (ms.length : Nat) cp2) ms.length (row .u8 ms)) := own_keep HO.out (grown_of_below HX9.out none) (fun k hk => by cases hk)
          have HB9 : Hid (Below w.heap.size w w9) := HB.out.trans (HX9.out.mono (by omega))
          clear hb8
          go_wp2_with (refine wpList_store_mid rfl 25 _ _ rfl w8.heap.size 0 (row .u8 fr).toArray rfl rfl HT.out T2.out T3.out ?_; rw [← HW9.out])
          refine (ref_any ao2 cp2 ms w9 (by omega) hesb (fun h => by
            obtain ⟨g, c, hf, h1, h2⟩ := O9.out.form h
            simp only [Value.slice.injEq] at hf
            obtain ⟨hf1, -, hf2⟩ := hf
            subst hf1
            exact ⟨g, 0, rfl, h2, fun i hi => by rw [Nat.zero_add, O9.out.cellAt i (by omega), row_at .u8 ms i hi]⟩)).mono ?_
          rintro e w10 ⟨rfl, hb10⟩
          have hs10 := hb10.size
          have hz9' := hz9.out
          rw [← HE.out]
          have HT11 : Hid ((w10.alloc (.cells zr 24)).there w10.heap.size 0 (row .u8 fr).toArray.size) := hid (by rw [row_size, hfl, HZ.out]; exact there_row (heap_alloc_new w10 _) rfl)
          obtain ⟨w11, HW11⟩ : ∃ w11, Hid (w11 = (w10.alloc (.cells zr 24)).setCells w10.heap.size 0 (row .u8 fr).toArray.toList) := ⟨_, rfl⟩
          have HX11 : Hid (Below w9.heap.size w9 w11) := hid (by rw [HW11.out]; exact below_setCells (by omega) _ _ _ _ (hb10.alloc (by omega) _))
          have HS11 : w11.rangeAt w10.heap.size 0 (row .u8 fr) := by rw [HW11.out]; exact World.rangeAt_setCells_same _ w10.heap.size 0 _ (by have := HT11.out; simpa using this)
          have HQ11 : w11.rangeAt w8.heap.size 0 (row .u8 fr) := fun i v hv => (HX11.out.cell (p := ⟨w8.heap.size, 0 + i, none⟩) (by show w8.heap.size < _; omega)).trans (HS9.out i v hv)
          have HB11 : Hid (Below w.heap.size w w11) := HB9.out.trans (HX11.out.mono (by omega))
          clear hb10 hz9'
          go_wp2_with (first
            | (refine wpList_store_mid rfl 24 _ _ rfl w10.heap.size 0 (row .u8 fr).toArray rfl rfl HT11.out T2'.out T3.out ?_; rw [← HW11.out])
            | refine wpList_load_mid rfl 25 _ rfl w8.heap.size 0 rfl (row .u8 fr) _ HQ11 Try.underlying25 rfl hi25 ?_
            | refine wpList_load_mid rfl 24 _ rfl w10.heap.size 0 rfl (row .u8 fr) _ HS11 Try.underlying24 rfl hi24 ?_)
          go_ret
          exact ⟨rfl, HB11.out⟩
end Go.Proofs.Ytlkfanlodoiacaa
