/- 'readSymbols'. -/
import Derived.Test.YtbiibhpknflagaaDoorOutC
import Derived.Test.YtbiibhpknflagaaDoorOutD
namespace Go.Proofs.YtbiibhpknflagaaDoor
open Go.RowKit Plain
set_option linter.unusedVariables false

/-- What is known at the end of a call that reads on. -/
def Post (E : Env) (B : Nat) (v : Value) (w : World) (r : Res) (e : Ending) (w' : World) : Prop :=
  match r with
  | .ok (p, out) => e = .returned (.tuple #[]) ∧ ∃ v', St w' E B p v' out ∧ Kept E.S v v' w w'
  | .error k => e = .panicked (errv k) ∧ ∃ v', Kept E.S v v' w w'
def codeV (L : Loc) : Value := .func (.func 80) #[] #[.pointer (some ⟨L.bs, 0, none⟩), .pointer (some ⟨L.bc, 0, none⟩), .pointer (some ⟨L.bd, 0, none⟩)]

theorem grownBy_allocN (w : World) (q : Nat) (o : Obj) (row : Option Nat) : w.grownBy ((w.drewN q).alloc o) row := let h := World.grownBy_alloc (w.drewN q) o row; ⟨h.os, h.tape, h.output, h.size, h.block⟩
theorem decGo_mem {cnt srt : List Nat} {zs : List Int} (hs : ∀ i, srt.getD i 0 ≤ 400) : ∀ (f n b first passed p y p' : Nat), decGo cnt srt zs f n b first passed p = some (y, p') → y ≤ 400
  | 0, _, _, _, _, _, _, _, h => by simp [decGo] at h
  | f + 1, n, b, first, passed, p, y, p', h => by
    rw [decGo] at h
    split at h
    · simp at h
    · split at h
      · simp only [Option.some.injEq, Prod.mk.injEq] at h; rw [← h.1]; exact hs _
      · exact decGo_mem hs f _ _ _ _ _ _ _ h
theorem dec_mem {cnt srt : List Nat} {zs : List Int} {p y p' : Nat} (h : dec cnt srt zs p = some (y, p')) (hs : ∀ i, srt.getD i 0 ≤ 400) : y ≤ 400 := decGo_mem hs _ _ _ _ _ _ _ _ h
theorem len_bd : ∀ n, n < 29 → ∀ x, x < 2 ^ lenBits.getD n 0 → lenStart.getD n 0 + x ≤ 258 := by
  have : ∀ n, n < 29 → lenStart.getD n 0 + 2 ^ lenBits.getD n 0 ≤ 259 := by decide
  intro n hn x hx
  have := this n hn
  omega
theorem dist_pos : ∀ n, n < 30 → 1 ≤ distStart.getD n 0 := by decide
theorem St.read {w w1 : World} {E : Env} {B p p1 : Nat} {v : Value} {out : List Int} (h : St w E B p v out) (hr : Rd w1 E p1 v) (hk : Kept E.S (.bool true) (.bool true) w w1) : St w1 E B p1 v out := by
  obtain ⟨nx, hold, held, hst, -⟩ := h.rd
  exact ⟨hr, hk.owns h.own hst.Sv, h.isB, by have := hk.size; have := h.hB; omega, h.le⟩

set_option maxRecDepth 20000 in
set_option maxHeartbeats 4000000 in
theorem readSymbols_any (E : Env) (B p : Nat) (v : Value) (out : List Int) (w : World) (hz : IsB E.zs) (hl : E.zs.length ≤ 400000) (h : St w E B p v out) (hm : E.most ≤ 400000) (hw2 : E.win ≤ 40000) (hw3 : 0 ≤ E.win) (ht : Tabs w E v)
    (L M : Loc) (cl sl cd sd : List Nat) (hcl : CodeAt w E v L cl sl) (hcd : CodeAt w E v M cd sd) (okl : CodeOK cl sl) (okd : CodeOK cd sd) (hsl : ∀ i, sl.getD i 0 ≤ 400) (hsd : ∀ i, sd.getD i 0 ≤ 400) :
    Calls Tryd.prog 30 #[.pointer (some ⟨E.S, 0, none⟩), .func (.func 80) #[] #[.pointer (some ⟨L.bs, 0, none⟩), .pointer (some ⟨L.bc, 0, none⟩), .pointer (some ⟨L.bd, 0, none⟩)], .func (.func 80) #[] #[.pointer (some ⟨M.bs, 0, none⟩), .pointer (some ⟨M.bc, 0, none⟩), .pointer (some ⟨M.bd, 0, none⟩)]] w
      (Post E B v w (syms (dec cl sl E.zs) (dec cd sd E.zs) E.zs E.most E.win p out)) := by
  obtain ⟨r, HR0⟩ : ∃ r, Hid (syms (dec cl sl E.zs) (dec cd sd E.zs) E.zs E.most E.win p out = r) := ⟨_, rfl⟩
  rw [HR0.out]
  go_enter Tryd.func30, Tryd.ntmps30
  go_wp2
  go_loopg [6] (8 * E.zs.length - p) (fun k _ wr => ∃ (p' : Nat) (v' : Value) (out' : List Int), k = 8 * E.zs.length - p' ∧ Hid (syms (dec cl sl E.zs) (dec cd sd E.zs) E.zs E.most E.win p' out' = r) ∧ Hid (St wr E B p' v' out') ∧ Hid (Kept E.S v v' w wr))
  case atStart => exact ⟨p, v, out, rfl, HR0, h, Kept.refl _ _ _⟩
  case round =>
    obtain ⟨p', v', out', hk, HY, HS, HK⟩ := hrel
    have hlen := HS.out.len hm
    have hcl' := hcl.kept HK.out
    have hcd' := hcd.kept HK.out
    have ht' := ht.kept HK.out
    have E0 := HY.out
    rw [syms_eq, symsStep] at E0
    cases hdl : dec cl sl E.zs p' with
    | none =>
      rw [hdl] at E0
      simp only [] at E0
      subst E0
      go_wp2_with fail
      refine (dec_bad E L cl sl p' v' wr hz hl HS.out.rd hcl' okl hdl).mono ?_
      rintro e w1 ⟨rfl, k1⟩
      exact ⟨rfl, rfl, v', HK.out.trans (k1.weak v')⟩
    | some yp =>
      obtain ⟨y, p1⟩ := yp
      have hlt := dec_lt hdl
      rw [hdl] at E0
      simp only [if_pos hlt] at E0
      have HE0 : Hid (_ = r) := E0
      clear E0
      go_wp2_with fail
      refine (dec_ok E L cl sl p' y p1 v' wr hz hl HS.out.rd hcl' okl hdl).mono ?_
      rintro e w1 ⟨rfl, r1, k1⟩
      have HK1 : Hid (Kept E.S v v' w w1) := HK.out.trans (k1.weak v')
      have S1 : St w1 E B p1 v' out' := HS.out.read r1 k1
      have hsy := dec_mem hdl hsl
      clear hdl
      by_cases hy : y < 256
      · have hyZ : (y : Int) < 256 := by omega
        have E1 := HE0.out
        rw [if_pos hy] at E1
        obtain ⟨m, hmo⟩ : ∃ m, out'.length = m := ⟨_, rfl⟩
        obtain ⟨⟨nx, hold, held, hst, hp, hh, hnx, HG⟩, hown, hisB, hB, hle⟩ := S1
        rw [hmo] at hown hle hlen E1
        obtain ⟨a, cp, rfl⟩ := owns_shape hown
        have HH : Hid (Str w1 E nx hold held (.slice a m cp)) := hst
        by_cases hrm : ((1 : Nat) : Int) ≤ E.most - m
        · rw [if_neg (by simpa using hrm)] at E1
          have HE1 : Hid (_ = r) := E1
          clear E1 hst
          go_wp2_with fail
          refine (needRoom_ok E nx hold held 1 m cp _ _ hm hlen (by omega) (by omega) HH.out hrm).mono ?_
          rintro e w2 ⟨rfl, q, rfl⟩
          obtain ⟨c0, c1, c2, c3, c4, c5, c6, fz, src, ibS, ibv, ibl, Sl, Sv⟩ := HH.out
          have f4 := fz 4
          have hyu : IntKind.u8.wrap (y : Int) = (y : Int) := by rw [IntKind.wrap_u8']; omega
          clear c0 c1 c2 c3 c5 c6 src
          obtain ⟨i5, hi, hz0, hz1, hz2⟩ := info_parts Tryd.info5
          go_wp2_with (at_builtin; refine wpList_append_lies _ rfl _ _ _ rfl B 5 i5 (.int .u8 0) 1 1 Tryd.underlying22 hi hz0 hz1 hz2 rfl (by omega) (.slice a m cp) m (out'.map (Value.int .u8)) rfl ?b1 ⟨w1.heap.size, 0, none⟩ 1 1 [.int .u8 (y : Int)] ?b2 rfl ?b3 ?b4 (by omega) ?b5 ?b6 ?b7 (w1.heap.size + 1) ?b8 ?_)
          case b1 => exact hown.alloc _
          case b2 => rfl
          case b3 => intro j u hj; match j, hj with | 0, hj => simp at hj; subst hj; rw [addr_add]; first | exact World.cell?_alloc_new (w1.drewN q) _ _ _ | exact World.cell?_alloc_new _ _ _
          case b4 => intro u hu; simp at hu; subst hu; rfl
          case b5 => unfold maxLen; omega
          case b6 => omega
          case b7 => simp; omega
          case b8 => simp
          · intro g2 cp2 w3 hown1 hgrow hat hlt2
            have hx1 : w1.grownBy ((w1.drewN q).alloc (.cells #[.int .u8 (y : Int)] 5)) none := grownBy_allocN w1 q _ none
            obtain ⟨d4, e4⟩ := HH.out.grow_cell hx1 hgrow 4
            rw [c4] at d4
            have hkl : (out' ++ [(y : Int)]).map (Value.int .u8) = out'.map (Value.int .u8) ++ [.int .u8 (y : Int)] := by simp
            obtain ⟨hs2, hk2⟩ := HH.out.grow hx1 hgrow (.slice (some ⟨g2, 0, none⟩) (m + 1) cp2) g2 rfl (by simpa using hat)
            have HS2 : Hid (_ ∧ Kept E.S _ _ w1 _) := ⟨hs2, hk2⟩
            have HO : Hid (World.ownsRow _ B 5 1 _ _ _) := owns_set hown1 E.S 4 (.slice (some ⟨g2, 0, none⟩) (m + 1) cp2) hs2.Sv
            rw [← hkl] at HO
            clear hs2 hk2 hown1 hgrow hat
            go_wp2
            go_roundg (8 * E.zs.length - p1)
            case measure => omega
            case rel =>
              refine ⟨p1, _, out' ++ [(y : Int)], rfl, HE1, ⟨⟨nx, hold, held, HS2.out.1, hp, hh, hnx, HG⟩, ?_, ?_, ?_, ?_⟩, HK1.out.trans HS2.out.2⟩
              · rw [show (out' ++ [(y : Int)]).length = m + 1 from by simp; omega]; exact HO.out
              · intro x hx
                rcases List.mem_append.1 hx with hx | hx
                · exact hisB x hx
                · simp only [List.mem_singleton] at hx; omega
              · have := HS2.out.2.size; omega
              · simp; omega
        · rw [if_pos (by simpa using hrm)] at E1
          subst E1
          go_wp2_with fail
          refine (needRoom_bad E nx hold held 1 m cp _ _ hm hlen (by omega) (by omega) HH.out (by omega)).mono ?_
          rintro e w2 ⟨rfl, q, rfl⟩
          exact ⟨rfl, rfl, _, HK1.out.drewN _⟩
      · have E1 := HE0.out
        rw [if_neg hy] at E1
        by_cases hy2 : y = 256
        · subst hy2
          rw [if_pos rfl] at E1
          subst E1
          go_wp2
          go_end0
          exact ⟨rfl, v', S1, HK1.out⟩
        · rw [if_neg hy2] at E1
          have hyl : y ≤ 400 := hsy
          obtain ⟨n, rfl⟩ : ∃ n, y = n + 257 := ⟨y - 257, by omega⟩
          rw [show n + 257 - 257 = n from by omega] at E1
          have hyZ : ¬ ((n + 257 : Nat) : Int) < 256 := by omega
          have hyZ2 : (((n + 257 : Nat) : Int) == 256) = false := by simp; omega
          by_cases hn : 29 ≤ n
          · rw [if_pos hn] at E1
            subst E1
            go_wp2_with fail
            refine (readLength_none E n w1 hn (by omega)).mono ?_
            rintro e w2 ⟨rfl, k2⟩
            exact ⟨rfl, rfl, v', HK1.out.trans (k2.weak v')⟩
          · rw [if_neg hn] at E1
            have ht1 := ht'.kept (k1.weak v')
            by_cases hb : 8 * E.zs.length < p1 + lenBits.getD n 0
            · rw [if_pos hb] at E1
              subst E1
              go_wp2_with fail
              refine (readLength_bad E p1 n v' w1 hz hl S1.rd ht1 (by omega) hb).mono ?_
              rintro e w2 ⟨rfl, k2⟩
              exact ⟨rfl, rfl, v', HK1.out.trans (k2.weak v')⟩
            · rw [if_neg hb] at E1
              have HE1 : Hid (_ = r) := E1
              clear E1
              go_wp2_with fail
              refine (readLength_ok E p1 n v' w1 hz hl S1.rd ht1 (by omega) (by omega)).mono ?_
              rintro e w2 ⟨rfl, r2, k2⟩
              have S2 : St w2 E B (p1 + lenBits.getD n 0) v' out' := S1.read r2 k2
              have HK2 : Hid (Kept E.S v v' w w2) := HK1.out.trans (k2.weak v')
              have k02 := k1.trans k2
              have hcd2 := hcd'.kept (k02.weak v')
              have ht2 := ht'.kept (k02.weak v')
              have lb1 := (tab_bd n (by omega)).1
              have lb2 := (tab_bd n (by omega)).2.1
              have lb3 := getB_lt E.zs p1 (lenBits.getD n 0)
              have lb4 : 2 ^ lenBits.getD n 0 ≤ 2 ^ 5 := Nat.pow_le_pow_right (by omega) lb2
              obtain ⟨len, HL⟩ : ∃ x, Hid (x = lenStart.getD n 0 + getB E.zs p1 (lenBits.getD n 0)) := ⟨_, rfl⟩
              have hlen2 : len ≤ 289 := by rw [HL.out]; omega
              have hlen3 : len ≤ 258 := by rw [HL.out]; exact len_bd n (by omega) _ lb3
              rw [← HL.out] at HE1 ⊢
              obtain ⟨p2, HP2⟩ : ∃ x, Hid (x = p1 + lenBits.getD n 0) := ⟨_, rfl⟩
              rw [← HP2.out] at HE1 S2
              have hp2 : p1 ≤ p2 := by rw [HP2.out]; omega
              clear lb1 lb2 lb3 lb4 r2 hb hlen2
              have E2 := HE1.out
              clear HE1
              cases hdd : dec cd sd E.zs p2 with
              | none =>
                rw [hdd] at E2
                simp only [] at E2
                subst E2
                go_wp2_with fail
                refine (dec_bad E M cd sd p2 v' w2 hz hl S2.rd hcd2 okd hdd).mono ?_
                rintro e w3 ⟨rfl, k3⟩
                exact ⟨rfl, rfl, v', HK2.out.trans (k3.weak v')⟩
              | some dp =>
                obtain ⟨d, p3⟩ := dp
                have hlt3 := dec_lt hdd
                have hsd2 := dec_mem hdd hsd
                rw [hdd] at E2
                simp only [if_pos hlt3] at E2
                go_wp2_with fail
                refine (dec_ok E M cd sd p2 d p3 v' w2 hz hl S2.rd hcd2 okd hdd).mono ?_
                rintro e w3 ⟨rfl, r3, k3⟩
                have S3 : St w3 E B p3 v' out' := S2.read r3 k3
                have HK3 : Hid (Kept E.S v v' w w3) := HK2.out.trans (k3.weak v')
                have ht3 := ht2.kept (k3.weak v')
                clear hdd r3
                by_cases hd : 30 ≤ d
                · rw [if_pos hd] at E2
                  subst E2
                  go_wp2_with fail
                  refine (readDistance_none E d w3 hd (by omega)).mono ?_
                  rintro e w4 ⟨rfl, k4⟩
                  exact ⟨rfl, rfl, v', HK3.out.trans (k4.weak v')⟩
                · rw [if_neg hd] at E2
                  by_cases hb : 8 * E.zs.length < p3 + distBits.getD d 0
                  · rw [if_pos hb] at E2
                    subst E2
                    go_wp2_with fail
                    refine (readDistance_bad E p3 d v' w3 hz hl S3.rd ht3 (by omega) hb).mono ?_
                    rintro e w4 ⟨rfl, k4⟩
                    exact ⟨rfl, rfl, v', HK3.out.trans (k4.weak v')⟩
                  · rw [if_neg hb] at E2
                    go_wp2_with fail
                    refine (readDistance_ok E p3 d v' w3 hz hl S3.rd ht3 (by omega) (by omega)).mono ?_
                    rintro e w4 ⟨rfl, r4, k4⟩
                    have S4 : St w4 E B (p3 + distBits.getD d 0) v' out' := S3.read r4 k4
                    have HK4 : Hid (Kept E.S v v' w w4) := HK3.out.trans (k4.weak v')
                    have lb1 := (tab_bd d (by omega)).2.2.1
                    have lb2 := (tab_bd d (by omega)).2.2.2
                    have lb3 := getB_lt E.zs p3 (distBits.getD d 0)
                    have lb4 : 2 ^ distBits.getD d 0 ≤ 2 ^ 13 := Nat.pow_le_pow_right (by omega) lb2
                    have lb5 := dist_pos d (by omega)
                    obtain ⟨far, HF⟩ : ∃ x, Hid (x = distStart.getD d 0 + getB E.zs p3 (distBits.getD d 0)) := ⟨_, rfl⟩
                    have hfar : far ≤ 40000 := by rw [HF.out]; omega
                    have hfar1 : 1 ≤ far := by rw [HF.out]; omega
                    rw [← HF.out] at E2 ⊢
                    obtain ⟨p4, HP4⟩ : ∃ x, Hid (x = p3 + distBits.getD d 0) := ⟨_, rfl⟩
                    rw [← HP4.out] at E2 S4
                    have hp4 : p3 ≤ p4 := by rw [HP4.out]; omega
                    have hp5 : p4 ≤ 8 * E.zs.length := by rw [HP4.out]; omega
                    clear lb1 lb2 lb3 lb4 lb5 r4 hb
                    by_cases hf : out'.length < far ∨ E.win < far
                    · rw [if_pos hf] at E2
                      subst E2
                      go_wp2_with fail
                      refine (repeat_far E B p4 far len v' out' w4 S4 hm hfar hlen3 hw2 hw3 hf).mono ?_
                      rintro e w5 ⟨rfl, k5⟩
                      exact ⟨rfl, rfl, v', HK4.out.trans k5⟩
                    · rw [if_neg hf] at E2
                      by_cases hrm : (len : Int) ≤ E.most - out'.length
                      · rw [if_neg (by omega)] at E2
                        have HE2 : Hid (_ = r) := E2
                        clear E2
                        go_wp2_with fail
                        refine (repeat_ok E B p4 far len v' out' w4 S4 hm (by omega) hfar1 hlen3 (by omega) hw2 (by omega)).mono ?_
                        rintro e w5 ⟨rfl, v5, S5, k5⟩
                        have HS5 : Hid (St w5 E B p4 v5 (rep out' far len)) := S5
                        have HK5 : Hid (Kept E.S v v5 w w5) := HK4.out.trans k5
                        clear S5 k5
                        go_wp2
                        go_roundg (8 * E.zs.length - p4)
                        case measure => omega
                        case rel => exact ⟨p4, v5, _, rfl, HE2, HS5, HK5⟩
                      · rw [if_pos (by omega)] at E2
                        subst E2
                        go_wp2_with fail
                        refine (repeat_room E B p4 far len v' out' w4 S4 hm (by omega) hlen3 (by omega) hw2 (by omega)).mono ?_
                        rintro e w5 ⟨rfl, k5⟩
                        exact ⟨rfl, rfl, v', HK4.out.trans k5⟩
end Go.Proofs.YtbiibhpknflagaaDoor
