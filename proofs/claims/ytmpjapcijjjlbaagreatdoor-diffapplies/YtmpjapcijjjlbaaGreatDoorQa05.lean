import Derived.Test.YtmpjapcijjjlbaaGreatDoorQa04
namespace Go.Proofs.YtmpjapcijjjlbaaGreatDoor
open Go.RowKit
set_option linter.unusedVariables false
set_option linter.unusedSimpArgs false
section
variable {α : Type} {enc : α → List Value} {k : Nat} {d : α}
theorem exec_bx_sl {w w0 : World} {o : Oper} {a : Act} (s x : Operand) (t e : TypeId) (hu : Tryz.prog.underlying t = some (.slice e)) {z : Value} {by_ : Nat} (hin : (Tryz.prog.info? e).map (fun i => (i.zero, i.size, i.bytes)) = some (some z, k, by_)) (hz : z.cells.size = k) (hk : 0 < k) (hby : by_ ≤ 100)
    (hone : ∀ x, ∀ v ∈ enc x, v.oneCell' = true)
    (ho : o.op = .call { callee := .builtin .append, args := #[s, x], argTypes := #[t, t] }) (B : Nat) (v : Value) (l : List α) (hs : a.eval s = v) (h : Bx enc k e w0 w B v l)
    (ax : Option Addr) (cx : Nat) (m : List α) (hx : a.eval x = .slice ax m.length cx) (hP : Px enc k d w ax cx m) (hw : ∀ x ∈ m, (enc x).length = k) (hl : l.length + m.length ≤ 10000000) :
    ∃ v' w', (execOp a.eval o).run Tryz.prog w = .ok (.value v') w' ∧ Bx enc k e w0 w' B v' (l ++ m) ∧ w.grownBy w' v.ownBlock := by
  obtain ⟨i, hi, hz0, hz1, hz2⟩ := info_parts hin
  have key : ∀ v' w', (Builtin.append_ #[t, t] o.type #[v, .slice ax m.length cx]).run Tryz.prog w = .ok v' w' → (execOp a.eval o).run Tryz.prog w = .ok (.value v') w' := fun v' w' hr => by
    unfold execOp
    simp only [ho, resolve, invoke, builtin, Sem.run_bind, Sem.run_pure, Result.andThen_ok, List.map_toArray, List.map_cons, List.map_nil, hs, hx, hr]
  cases ax with
  | none =>
    have hc : cx = 0 := hP.nil rfl
    have hcl := hP.capl
    obtain rfl : m = [] := List.length_eq_zero_iff.1 (by omega)
    subst hc
    exact ⟨v, w, key _ _ (run_append_owned_none (P := Tryz.prog) w B t o.type e i k hu hi v _ _ h.own), by simpa using h, ⟨rfl, rfl, rfl, Nat.le_refl _, fun _ _ _ => rfl⟩⟩
  | some ad =>
    obtain ⟨bk, of, fr⟩ := ad
    by_cases h0 : m.length = 0
    · obtain rfl : m = [] := List.length_eq_zero_iff.1 h0
      obtain ⟨v', w', hr, h1, h2, _⟩ := run_append_own_at (P := Tryz.prog) w B t o.type e i z k by_ hu hi hz0 hz1 hz2 hz hk v _ _ h.own ⟨bk, of, fr⟩ 0 cx [] (by simp) (fun j u hj => by cases hj) (fun u hu => by cases hu) (by unfold maxLen; omega) (by have h2 := Nat.mul_le_mul hl hby; exact Nat.le_trans h2 (by decide)) h.le
      refine ⟨v', w', key _ _ hr, ⟨h.below.grown h2 h.le (fun k hk => (own_lt h.own k hk).1), ?_, Nat.le_trans h.le h2.size⟩, h2⟩
      simpa using h1
    · obtain ⟨b', off', e1, _⟩ := hP.at_ (by omega)
      cases e1
      obtain ⟨v', w', hr, h1, h2, _⟩ := run_append_own_at (P := Tryz.prog) w B t o.type e i z k by_ hu hi hz0 hz1 hz2 hz hk v _ _ h.own ⟨bk, of, none⟩ m.length cx (m.flatMap enc) (fX_len m hw) (hP.cells hk hw) (fX_one m hone) (by unfold maxLen; omega) (by have h2 := Nat.mul_le_mul hl hby; exact Nat.le_trans h2 (by decide)) h.le
      refine ⟨v', w', key _ _ hr, ⟨h.below.grown h2 h.le (fun k hk => (own_lt h.own k hk).1), ?_, Nat.le_trans h.le h2.size⟩, h2⟩
      rw [List.length_append, List.flatMap_append]
      exact h1
end
theorem exec_bS1 {P : Program} {o : Oper} {a : Act} {w w' : World} (t len : Nat) (x : Operand) (ho : o.op = .buildSlice t len #[(0, x)]) (u1 v : Value) (h1 : a.eval x = u1) (hr : (Instr.buildSlice t len #[(0, u1)]).run P w = .ok v w') : (execOp a.eval o).run P w = .ok (.value v) w' := by
  unfold execOp
  simp [ho, h1, hr, Result.andThen]
theorem step_skip {P : Program} {ops : Array Oper} {o : Oper} {a : Act} {w w' : World} {K : Act → World → Prop} {Q : Exit → Act → World → Prop} {E : Prop} (hg : o.guard = none) (hr : (execOp a.eval o).run P w = .ok .skip w') (h : K (a.put o.dst undef) w') :
    if Region.wanted o (yielded ops a.tmps) = true then Oper.wp P o a w K Q else E := by
  have hw : Region.wanted o (yielded ops a.tmps) = true := by simp [Region.wanted, hg]
  rw [if_pos hw]
  unfold Oper.wp
  rw [hr]
  exact h
theorem step_appE {w w0 : World} {ops : Array Oper} {o : Oper} {a : Act} {KK : Act → World → Prop} {Q : Exit → Act → World → Prop} {E : Prop} (hg : o.guard = none) (s x : Operand) (ho : o.op = .call { callee := .builtin .append, args := #[s, x], argTypes := #[23, 23] }) (B : Nat) (v : Value) (l : List Ed) (hs : a.eval s = v) (h : BE 43 w0 w B v l)
    (ax : Option Addr) (cx : Nat) (m : List Ed) (hx : a.eval x = .slice ax m.length cx) (hP : PE w ax cx m) (hl : l.length + m.length ≤ 10000000) (hK : ∀ v' w', BE 43 w0 w' B v' (l ++ m) → w.grownBy w' v.ownBlock → KK (a.put o.dst v') w') :
    if Region.wanted o (yielded ops a.tmps) = true then Oper.wp Tryz.prog o a w KK Q else E := by
  obtain ⟨v', w', hr, hb, hg'⟩ := exec_bx_sl (enc := encE) (k := 2) (d := (0, [])) s x 23 43 und26 Tryz.info43 rfl (by decide) (by decide) encE_one ho B v l hs h ax cx m hx hP (fun y _ => encE_len y) hl
  exact step_exec hg v' hr (hK v' w' hb hg')
def ab (y : Gh) : Rh := (y.1.toNat, y.2.2.2.2)
def LOk (es : List Ed) : Prop := ∀ e ∈ es, e.1 ≤ 2 ∧ e.2.length ≤ 1000000
def GOk (l : List Gh) : Prop := ∀ y ∈ l, (0 ≤ y.1 ∧ y.1 ≤ 4294967295 ∧ y.2.1 = 0) ∧ LOk y.2.2.2.2
def PostRh (s : Str) (w : World) (G : Nat) (e : Ending) (w' : World) : Prop :=
  ∃ v l, e = .returned v ∧ BG w w' G v l ∧ (∀ y ∈ l, OwE w' G y) ∧ l.map ab = rdH s ∧ GOk l
def RdI (w wr : World) (G : Nat) (lv : Value) (st : List Rh) (i : Nat) : Prop :=
  (st = [] ∧ lv = .slice none 0 0 ∧ Below G w wr ∧ G ≤ wr.heap.size) ∨ ∃ N0 l x, Sh w wr G N0 lv l x ∧ (l ++ [x]).map ab = st ∧ GOk (l ++ [x]) ∧ l.length + 1 ≤ i ∧ x.2.2.2.2.length ≤ i
theorem RdI.bl {w wr : World} {G : Nat} {lv : Value} {st : List Rh} {i : Nat} (h : RdI w wr G lv st i) : Below G w wr := by
  rcases h with ⟨_, _, h, _⟩ | ⟨N0, l, x, h, _⟩
  · exact h
  · exact h.row.below
theorem run_b73 (q : Nat) (w : World) : (Instr.build 73 #[(0, .int .i64 (q : Int))]).run Tryz.prog w = .ok (.agg #[.int .i64 (q : Int), .int .i64 0, .slice none 0 0]) w := by kernel_rfl
theorem pg_one (x : Gh) (e : TypeId) (w : World) : PG (w.alloc (.cells (encG x).toArray e)) (some ⟨w.heap.size, 0, none⟩) 1 [x] :=
  ⟨by simp, fun _ => ⟨w.heap.size, 0, rfl, by simp, fun i hi => by
    obtain rfl : i = 0 := by simp at hi; omega
    have := range_row (cs := encG x) (heap_alloc_new w (.cells (encG x).toArray e))
    simpa using this⟩, fun h => by cases h⟩
theorem enter60 (x : Value) (w : World) : (callFunc 60 #[x]).run Tryz.prog w = .ok (.enter 60 #[x]) w := by kernel_rfl
theorem rdE_len (t : Str) : (rdE t).2.length ≤ t.length := by
  unfold rdE
  simp
theorem LOk.nil : LOk [] := fun e he => by cases he
theorem LOk.snoc {es : List Ed} {e : Ed} (h : LOk es) (he : e.1 ≤ 2 ∧ e.2.length ≤ 1000000) : LOk (es ++ [e]) := fun x hx => by
  rcases List.mem_append.1 hx with hx | hx
  · exact h x hx
  · rw [List.mem_singleton.1 hx]; exact he
theorem trE_len (x : Str) : (trE x).length ≤ x.length := by
  unfold trE Lib.trimSuffix
  split
  · rw [List.length_take]; omega
  · exact Nat.le_refl _
theorem GOk.snoc {l : List Gh} {y : Gh} (h : GOk l) (hy : (0 ≤ y.1 ∧ y.1 ≤ 4294967295 ∧ y.2.1 = 0) ∧ LOk y.2.2.2.2) : GOk (l ++ [y]) := fun z hz => by
  rcases List.mem_append.1 hz with hz | hz
  · exact h z hz
  · rw [List.mem_singleton.1 hz]; exact hy
theorem GOk.last {l : List Gh} {x y : Gh} (h : GOk (l ++ [x])) (h1 : y.1 = x.1) (h2 : y.2.1 = x.2.1) (h3 : LOk y.2.2.2.2) : GOk (l ++ [y]) := fun z hz => by
  rcases List.mem_append.1 hz with hz | hz
  · exact h z (List.mem_append.2 (.inl hz))
  · rw [List.mem_singleton.1 hz]; exact ⟨by rw [h1, h2]; exact (h x (by simp)).1, h3⟩
set_option maxRecDepth 20000 in
set_option maxHeartbeats 8000000 in
theorem readHunks_any {w : World} (a : Option Addr) (cap : Nat) (s : Str) (hP : PB w a cap s) (hl : s.length ≤ 1000000) (he : Ers w) (hm : Mx w) :
    Calls Tryz.prog 36 #[.slice a s.length cap] w (PostRh s w w.heap.size) := by
  obtain ⟨n, HN⟩ : ∃ n, Hid (s.length = n) := ⟨_, rfl⟩
  obtain ⟨G, HG⟩ : ∃ n, Hid (w.heap.size = n) := ⟨_, rfl⟩
  obtain ⟨L, HL⟩ : ∃ L, Hid (lns s = L) := ⟨_, rfl⟩
  have C15 : Hid (Calls Tryz.prog 15 #[.slice a n cap] w (PostS L w)) := hid (by rw [← HN.out, ← HL.out]; exact lines_any a cap s hP hl)
  have HLN : Hid (∀ t ∈ L, t ≠ [] ∧ t.length ≤ 1000000) := hid (fun t ht => by
    rw [← HL.out] at ht
    refine ⟨fun e => ?_, ?_⟩
    · have := lns_ne s t ht
      rw [e] at this
      simp at this
    · have := lns_short s t ht
      omega)
  have HLC : Hid (L.length ≤ 1000000) := hid (by rw [← HL.out]; have := lns_few s; omega)
  have HEW : Hid (∀ W, Below G w W → Ers W ∧ Mx W) := hid (fun W hW => by
    have hbw : Below w.heap.size w W := by rw [HG.out]; exact hW
    exact ⟨he.below hbw, hm.below hbw⟩)
  have HRD : Hid (rdH s = L.foldl rdS []) := hid (by unfold rdH; rw [HL.out])
  rw [HN.out, HG.out]
  clear hP hl he hm
  go_enter Tryz.func36, Tryz.ntmps36
  go_wp2_with fail
  refine C15.out.mono ?_
  rintro e w1 ⟨v, rfl, hbs⟩
  obtain ⟨la, lc, rfl, hps, hpl, hsh⟩ := hbs.px (d := []) (fun x _ => encS_len x)
  obtain ⟨k, HK⟩ : ∃ n, Hid (L.length = n) := ⟨_, rfl⟩
  obtain ⟨G1, HG1⟩ : ∃ n, Hid (w1.heap.size = n) := ⟨_, rfl⟩
  have hb1 := hbs.below
  rw [HG.out] at hb1
  have HB1 : Hid (Below G w w1) := hid hb1
  have HGG : Hid (G ≤ G1) := hid (by rw [← HG.out, ← HG1.out]; exact hbs.le)
  have HPS : Hid (∀ W, Below G1 w1 W → PS W la lc L) := hid (fun W hW => hps.below (by rw [HG1.out]; exact hW))
  have HLB : Hid (0 < k → ∃ b off, la = some ⟨b, off, none⟩) := hid (fun h => by
    obtain ⟨b, off, e1, _⟩ := hps.at_ (by rw [HK.out]; exact h)
    exact ⟨b, off, e1⟩)
  have hk6 : k ≤ 1000000 := by rw [← HK.out]; exact HLC.out
  have HS0 : Hid (RdI w1 w1 G1 (.slice none 0 0) ((L.take 0).foldl rdS []) 0) := hid (.inl ⟨rfl, rfl, Below.refl _ _, by rw [HG1.out]; exact Nat.le_refl _⟩)
  rw [HK.out]
  clear hbs hps hpl hsh hb1
  go_wp2_with fail
  go_loopg [3, 11] k (fun gg lv iv wr => ∃ i : Nat, i ≤ k ∧ gg = k - i ∧ iv = .int .i64 i ∧ Hid (RdI w1 wr G1 lv ((L.take i).foldl rdS []) i))
  case atStart => exact ⟨0, Nat.zero_le _, rfl, rfl, HS0⟩
  case round =>
    obtain ⟨i, hi, hkk, rfl, HS⟩ := hrel
    by_cases hlt : i < k
    · have hlti : (i : Int) < (k : Int) := by omega
      obtain ⟨b, off, rfl⟩ := HLB.out (by omega)
      have hil : i < L.length := by rw [HK.out]; exact hlt
      obtain ⟨t, HT⟩ : ∃ t, Hid (L.getD i [] = t) := ⟨_, rfl⟩
      obtain ⟨X, HX⟩ : ∃ X : ByteArray, Hid (⟨t.toArray⟩ = X) := ⟨_, hid rfl⟩
      have HTL : Hid (t ≠ [] ∧ t.length ≤ 1000000) := hid (HLN.out t (by rw [← HT.out]; exact getD_mem L i [] hil))
      have HST : Hid ((L.take (i + 1)).foldl rdS [] = rdS ((L.take i).foldl rdS []) t) := hid (by rw [take_snocG [] L i hil, List.foldl_append, HT.out]; rfl)
      obtain ⟨st, HSTT⟩ : ∃ st, Hid ((L.take i).foldl rdS [] = st) := ⟨_, rfl⟩
      rw [HSTT.out] at HS HST
      have ks : wr.cell? ⟨b, off + i, none⟩ = some (.string X) := by
        have := (HPS.out wr HS.out.bl).str i hil
        rw [HT.out, HX.out] at this
        exact this
      have C57 : Hid (∀ W : World, Calls Tryz.prog 57 #[.string X, .string ⟨#[64, 64, 32, 45]⟩] W fun e w' => e = .returned (.bool (Lib.hasPrefix t hdS)) ∧ w' = W) := hid (fun W => by
        rw [← HX.out]
        exact Any.strings_HasPrefix Tryz.lays99 ⟨t.toArray⟩ ⟨#[64, 64, 32, 45]⟩ W)
      obtain ⟨q, HQ⟩ : ∃ q, Hid (rdA t = q) := ⟨_, rfl⟩
      have hq : q ≤ 4294967295 := by rw [← HQ.out]; exact puV_le _
      have C58 : Hid (∀ W, Below G1 w1 W → Calls Tryz.prog 58 #[.string X] W fun e w' => e = .returned (.int .i64 (q : Nat)) ∧ Below W.heap.size W w') := hid (fun W hW => by
        obtain ⟨h1, h2⟩ := HEW.out W (HB1.out.trans (hW.mono HGG.out))
        rw [← HX.out, ← HQ.out]
        exact readStart_any t HTL.out.2 W h1 h2)
      have C60 : Hid (∀ W : World, Calls Tryz.prog 60 #[.string X] W fun e w' => e = .returned (.agg (encE (rdE t)).toArray) ∧ Below W.heap.size W w') := hid (fun W => by
        rw [← HX.out]
        exact readEdit_any t HTL.out.1 HTL.out.2 W)
      have hbd : ∀ W : World, (Instr.build 73 #[(0, .int .i64 (q : Int))]).run Tryz.prog W = .ok (.agg #[.int .i64 (q : Int), .int .i64 0, .slice none 0 0]) W := fun W => run_b73 q W
      have HBu : Hid (∀ W : World, (Instr.buildSlice 45 1 #[(0, .agg #[.int .i64 (q : Int), .int .i64 0, .slice none 0 0])]).run Tryz.prog W = .ok (.slice (some ⟨W.heap.size, 0, none⟩) 1 1) (W.alloc (.cells #[.int .i64 (q : Int), .int .i64 0, .slice none 0 0] 73))) := hid (fun W => run_build27 q 0 none 0 0 W)
      rcases HS.out with ⟨hst, rfl, hb0, hg0⟩ | ⟨N0, l, x, hsh, hab, hok, hll, hxl⟩
      · have HB0 := hid hb0
        have HG0 := hid hg0
        have HE := hid hst
        clear hst hb0 hg0 hil
        go_wp2_with fail
        refine (C57.out _).mono ?_
        rintro e w2 ⟨rfl, rfl⟩
        by_cases hp : Lib.hasPrefix t hdS = true
        · have HNX : Hid ((L.take (i + 1)).foldl rdS [] = [(q, [])]) := hid (by rw [HST.out, HE.out, rdS_head hp, HQ.out]; rfl)
          rw [hp]
          clear hp ks
          go_wp2_with fail
          refine (C58.out _ HB0.out).mono ?_
          rintro e w3 ⟨rfl, hb3⟩
          have hB3 : Below G1 w1 w3 := HB0.out.trans (hb3.mono HG0.out)
          have hG3 : G1 ≤ w3.heap.size := Nat.le_trans HG0.out hb3.size
          obtain ⟨w4, HW4⟩ : ∃ u, Hid (w3.alloc (.cells #[.int .i64 (q : Int), .int .i64 0, .slice none 0 0] 73) = u) := ⟨_, rfl⟩
          have HBX : Hid (BG w1 w4 G1 (.slice none 0 0) []) := hid (by
            rw [← HW4.out]
            exact ⟨hB3.alloc hG3 _, ⟨rfl, .inl ⟨rfl, rfl⟩⟩, by simp; omega⟩)
          have HPG : Hid (PG w4 (some ⟨w3.heap.size, 0, none⟩) 1 [((q : Int), 0, none, 0, [])]) := hid (by rw [← HW4.out]; exact pg_one ((q : Int), 0, none, 0, []) 73 w3)
          clear hb3 hB3 hG3
          go_wp2_with (first
            | (refine wpList_bS rfl 45 1 _ rfl (.agg #[.int .i64 (q : Int), .int .i64 0, .slice none 0 0]) _ rfl (HBu.out _) ?_; rw [HW4.out])
            | (refine wpList_bx_sl (d := g0) rfl _ _ 45 73 und27 Tryz.info73 rfl (by decide) (by decide) encG_one rfl G1 _ [] rfl HBX.out (some ⟨w3.heap.size, 0, none⟩) 1 [((q : Int), 0, none, 0, [])] rfl HPG.out (fun y _ => encG_len y) (by simp) ?_; intro v8 w8 hb8 hg8)
            | fail)
          have HF : Hid (RdI w1 w8 G1 v8 ((L.take (i + 1)).foldl rdS []) (i + 1)) := hid (.inr ⟨w8.heap.size, [], _, Sh.first hb8, by rw [HNX.out]; simp [ab], fun y hy => by
            obtain rfl : y = ((q : Int), 0, none, 0, []) := by simpa using hy
            exact ⟨⟨by simp, by simp only; omega, rfl⟩, LOk.nil⟩, by simp, by simp⟩)
          clear hb8 hg8
          go_wp2
          go_roundg (k - (i + 1))
          case measure => omega
          case rel => exact ⟨i + 1, by omega, rfl, by go_num, HF⟩
        · have HF : Hid (RdI w1 w2 G1 (.slice none 0 0) ((L.take (i + 1)).foldl rdS []) (i + 1)) := hid (.inl ⟨by rw [HST.out, HE.out]; exact rdS_none hp, rfl, HB0.out, HG0.out⟩)
          rw [show Lib.hasPrefix t hdS = false by simpa using hp]
          clear hp ks
          go_wp2
          go_roundg (k - (i + 1))
          case measure => omega
          case rel => exact ⟨i + 1, by omega, rfl, by go_num, HF⟩
      · obtain ⟨xa, xb, ea, ec, es⟩ := x
        simp only at hxl
        obtain ⟨hb, hcap, rfl⟩ : ∃ hb hcap, u3 = .slice (some ⟨hb, 0, none⟩) (l ++ [((xa, xb, ea, ec, es) : Gh)]).length hcap := by
          obtain ⟨_, ⟨_, h1⟩ | ⟨g, cp, cur, h1, _⟩⟩ := hsh.row.own
          · simp at h1
          · exact ⟨g, cp, h1⟩
        obtain ⟨m, HM⟩ : ∃ n, Hid ((l ++ [((xa, xb, ea, ec, es) : Gh)]).length = n) := ⟨_, rfl⟩
        obtain ⟨m1, HM1⟩ : ∃ n, Hid (l.length = n) := ⟨_, rfl⟩
        have HMM : Hid (m = m1 + 1) := hid (by rw [← HM.out, ← HM1.out]; simp)
        have hm6 : m1 ≤ 1000000 := by rw [HM1.out] at hll; omega
        rw [HM.out] at hsh
        rw [HM.out]
        have HSH := hid hsh
        have HAB := hid hab
        have HOK := hid hok
        have HLLL : Hid (l.length + 1 ≤ i) := hid hll
        have HXL : Hid (es.length ≤ i) := hid hxl
        have hsub : (m : Int) - 1 = (m1 : Int) := by have := HMM.out; omega
        have hm1lt : (m1 : Int) < (m : Int) := by have := HMM.out; omega
        have hm1n : ¬ (m1 : Int) < 0 := by omega
        obtain ⟨ne, HNE⟩ : ∃ n, Hid (es.length = n) := ⟨_, rfl⟩
        have HCE : Hid (∀ W v', Sh w1 W G1 N0 v' l (xa, xb, ea, ec, es) → v' = .slice (some ⟨hb, 0, none⟩) m hcap → W.cell? ⟨hb, m1 * 3 + 2, none⟩ = some (.slice ea ne ec)) := hid (fun W v' h1 h2 => by
          subst h2
          have h3 := h1.row.own
          rw [HM.out] at h3
          have h4 := (own_st h3 (m1 * 3 + 2) (by rw [fX_len (k := 3) _ (fun y _ => encG_len y), HM.out]; have := HMM.out; omega) (.int .i64 0) rfl).1
          rw [h4]
          have h5 := fX_at (enc := encG) (k := 3) (d := g0) (l ++ [(xa, xb, ea, ec, es)]) (fun y _ => encG_len y) l.length 2 (by simp) (by omega)
          rw [HM1.out] at h5
          rw [h5, ← HNE.out]
          have h6 : (l ++ [((xa, xb, ea, ec, es) : Gh)]).getD m1 g0 = (xa, xb, ea, ec, es) := by rw [← HM1.out]; simp
          rw [h6]
          rfl)
        have kh := HCE.out wr _ hsh rfl
        clear hsh hab hok hll hxl hil
        go_wp2_with fail
        refine (C57.out _).mono ?_
        rintro e w2 ⟨rfl, rfl⟩
        by_cases hp : Lib.hasPrefix t hdS = true
        · have HNX : Hid ((L.take (i + 1)).foldl rdS [] = st ++ [(q, [])]) := hid (by rw [HST.out, rdS_head hp, HQ.out])
          rw [hp]
          clear hp ks kh
          go_wp2_with fail
          refine (C58.out _ HSH.out.row.below).mono ?_
          rintro e w3 ⟨rfl, hb3⟩
          have hS3 := HSH.out.below hb3
          obtain ⟨w4, HW4⟩ : ∃ u, Hid (w3.alloc (.cells #[.int .i64 (q : Int), .int .i64 0, .slice none 0 0] 73) = u) := ⟨_, rfl⟩
          have HS4 : Hid (Sh w1 w4 G1 N0 (.slice (some ⟨hb, 0, none⟩) m hcap) l (xa, xb, ea, ec, es)) := hid (by
            rw [← HW4.out]
            exact hS3.below ((Below.refl _ _).alloc (Nat.le_refl _) _))
          have HPG : Hid (PG w4 (some ⟨w3.heap.size, 0, none⟩) 1 [((q : Int), 0, none, 0, [])]) := hid (by rw [← HW4.out]; exact pg_one ((q : Int), 0, none, 0, []) 73 w3)
          clear hb3 hS3
          go_wp2_with (first
            | (refine wpList_bS rfl 45 1 _ rfl (.agg #[.int .i64 (q : Int), .int .i64 0, .slice none 0 0]) _ rfl (HBu.out _) ?_; rw [HW4.out])
            | (refine wpList_bx_sl (d := g0) rfl _ _ 45 73 und27 Tryz.info73 rfl (by decide) (by decide) encG_one rfl G1 _ (l ++ [(xa, xb, ea, ec, es)]) rfl HS4.out.row (some ⟨w3.heap.size, 0, none⟩) 1 [((q : Int), 0, none, 0, [])] rfl HPG.out (fun y _ => encG_len y) (by rw [HM.out]; have := HMM.out; simp; omega) ?_; intro v8 w8 hb8 hg8)
            | fail)
          have HF : Hid (RdI w1 w8 G1 v8 ((L.take (i + 1)).foldl rdS []) (i + 1)) := hid (.inr ⟨w8.heap.size, l ++ [(xa, xb, ea, ec, es)], ((q : Int), 0, none, 0, []), HS4.out.push hb8 hg8, by rw [HNX.out, List.map_append, HAB.out]; simp [ab], HOK.out.snoc ⟨⟨by simp, by simp only; omega, rfl⟩, LOk.nil⟩, by have := HLLL.out; simp; omega, by simp⟩)
          clear hb8 hg8
          go_wp2
          go_roundg (k - (i + 1))
          case measure => omega
          case rel => exact ⟨i + 1, by omega, rfl, by go_num, HF⟩
        · rw [show Lib.hasPrefix t hdS = false by simpa using hp]
          by_cases hn : t = noM ∧ 0 < ne
          · obtain ⟨hn1, hn2⟩ := hn
            have hXn : X = ⟨#[92, 32, 78, 111, 32, 110, 101, 119, 108, 105, 110, 101, 32, 97, 116, 32, 101, 110, 100, 32, 111, 102, 32, 102, 105, 108, 101, 10]⟩ := by rw [← HX.out, hn1]; rfl
            have hxe : (X.toList == [92, 32, 78, 111, 32, 110, 101, 119, 108, 105, 110, 101, 32, 97, 116, 32, 101, 110, 100, 32, 111, 102, 32, 102, 105, 108, 101, 10]) = true := by
              rw [← HX.out]
              simp
              exact hn1
            have hnei : (0 : Int) < (ne : Int) := by omega
            obtain ⟨n1, HN1⟩ : ∃ n1, Hid (ne = n1 + 1) := ⟨ne - 1, hid (by omega)⟩
            have hne6 : ne ≤ 1000000 := by have := HXL.out; have := HNE.out; omega
            have hnsub : (ne : Int) - 1 = (n1 : Int) := by have := HN1.out; omega
            have hn1lt : (n1 : Int) < (ne : Int) := by have := HN1.out; omega
            have hn16 : n1 ≤ 1000000 := by have := HN1.out; omega
            have hwn : IntKind.i64.wrap (n1 : Int) = (n1 : Int) := by rw [IntKind.wrap_i64]; omega
            have hn10 : (0 : Int) ≤ (n1 : Int) := by omega
            obtain ⟨es1, e1, HES⟩ : ∃ es1 e1, Hid (es = es1 ++ [e1]) := by
              rcases List.eq_nil_or_concat es with h | ⟨a1, b1, h⟩
              · rw [h] at HNE; have := HNE.out; simp at this; omega
              · exact ⟨a1, b1, hid (by rw [List.concat_eq_append] at h; exact h)⟩
            obtain ⟨ek, el⟩ := e1
            have HE1 : Hid (es1.length = n1) := hid (by have h1 := HNE.out; rw [HES.out] at h1; simp at h1; have := HN1.out; omega)
            obtain ⟨eb, rfl⟩ : ∃ eb, ea = some ⟨eb, 0, none⟩ := by
              obtain ⟨_, ⟨h1, h2⟩ | ⟨g, cp, cur, h1, _⟩⟩ := HSH.out.la
              · have := HNE.out
                simp only at h2
                omega
              · unfold slE at h1
                injection h1 with h1
                exact ⟨g, h1⟩
            have HEOK : Hid (LOk (es1 ++ [(ek, el)])) := hid (by rw [← HES.out]; exact (HOK.out _ (List.mem_append.2 (.inr (List.mem_singleton.2 rfl)))).2)
            have HELN : Hid (el.length ≤ 9223372036854775807) := hid (by have := (HEOK.out (ek, el) (by simp)).2; simp only at this; omega)
            have HEOK2 : Hid (LOk (es1 ++ [(ek, trE el)])) := hid (LOk.snoc (fun x hx => HEOK.out x (by simp [hx])) ⟨(HEOK.out (ek, el) (by simp)).1, Nat.le_trans (trE_len el) (HEOK.out (ek, el) (by simp)).2⟩)
            have HNX : Hid ((L.take (i + 1)).foldl rdS [] = (l ++ [((xa, xb, some ⟨eb, 0, none⟩, ec, es1 ++ [(ek, trE el)]) : Gh)]).map ab) := hid (by
              rw [HST.out, ← HAB.out, List.map_append, List.map_append]
              have : List.map ab [((xa, xb, some ⟨eb, 0, none⟩, ec, es) : Gh)] = [(xa.toNat, es1 ++ [(ek, el)])] := by rw [HES.out]; rfl
              rw [this, rdS_end hp hn1]
              rfl)
            have HDB : Hid (Below w2.heap.size w2 w2.drew) := hid ⟨rfl, rfl, rfl, Nat.le_refl _, fun _ _ => rfl⟩
            have HSd : Hid (Sh w1 w2.drew G1 N0 (.slice (some ⟨hb, 0, none⟩) m hcap) l (xa, xb, some ⟨eb, 0, none⟩, ec, es)) := hid (HSH.out.below HDB.out)
            have kd := HCE.out w2.drew _ HSd.out rfl
            clear hp hn1 hn2 hXn ks
            go_wp2_with fail
            refine wp_region_held_drew (S := fun W => W.cell? ⟨hb, m1 * 3 + 2, none⟩ = some (.slice (some ⟨eb, 0, none⟩) ne ec)) (by kernel_rfl) kd (fun hHeld => ?_)
            generalize w2.drew = u0 at hHeld HSd HDB kd ⊢
            refine takeL (i := 0) (v := ?_) rfl (by kernel_rfl) (by kernel_rfl) (by kernel_rfl) (fun _ _ _ h => h) (Or.inl ⟨by rfl, ?_⟩) hHeld ?_
            rotate_left
            · intro w' c0; go_simp; rfl
            try simp only [Act.put, List.setIfInBounds_toArray, List.set_cons_zero, List.set_cons_succ]
            refine takeL (i := 1) (v := ?_) rfl (by kernel_rfl) (by kernel_rfl) (by kernel_rfl) (fun _ _ _ h => h) (Or.inl ⟨by rfl, ?_⟩) hHeld ?_
            rotate_left
            · intro w' c0; go_simp; rfl
            try simp only [Act.put, List.setIfInBounds_toArray, List.set_cons_zero, List.set_cons_succ]
            refine takeL (i := 2) (v := ?_) rfl (by kernel_rfl) (by kernel_rfl) (by kernel_rfl) (fun _ _ _ h => h) (Or.inl ⟨by rfl, ?_⟩) hHeld ?_
            rotate_left
            · intro w' c0; go_simp; rfl
            try simp only [Act.put, List.setIfInBounds_toArray, List.set_cons_zero, List.set_cons_succ]
            refine takeL (i := 3) (v := ?_) rfl (by kernel_rfl) (by kernel_rfl) (by kernel_rfl) (fun _ _ _ h => h) (Or.inl ⟨by rfl, ?_⟩) hHeld ?_
            rotate_left
            · intro w' c0; go_simp; rfl
            try simp only [Act.put, List.setIfInBounds_toArray, List.set_cons_zero, List.set_cons_succ]
            refine takeL (i := 4) (v := ?_) rfl (by kernel_rfl) (by kernel_rfl) (by kernel_rfl) (fun _ _ _ h => h) (Or.inl ⟨by rfl, ?_⟩) hHeld ?_
            rotate_left
            · intro w' c0; go_simp; rfl
            try simp only [Act.put, List.setIfInBounds_toArray, List.set_cons_zero, List.set_cons_succ]
            refine takeL (i := 5) (v := ?_) rfl (by kernel_rfl) (by kernel_rfl) (by kernel_rfl) (fun _ _ _ h => h) (Or.inl ⟨by rfl, ?_⟩) hHeld ?_
            rotate_left
            · intro w' c0; go_simp; rfl
            try simp only [Act.put, List.setIfInBounds_toArray, List.set_cons_zero, List.set_cons_succ]
            refine takeL (i := 6) (v := ?_) rfl (by kernel_rfl) (by kernel_rfl) (by kernel_rfl) (fun _ _ _ h => h) (Or.inl ⟨by rfl, ?_⟩) hHeld ?_
            rotate_left
            · intro w' c0; go_simp; rfl
            try simp only [Act.put, List.setIfInBounds_toArray, List.set_cons_zero, List.set_cons_succ]
            refine takeL (i := 7) (v := ?_) rfl (by kernel_rfl) (by kernel_rfl) (by kernel_rfl) (fun _ _ _ h => h) (Or.inl ⟨by rfl, ?_⟩) hHeld ?_
            rotate_left
            · intro w' c0; go_simp; rfl
            try simp only [Act.put, List.setIfInBounds_toArray, List.set_cons_zero, List.set_cons_succ]
            refine takeL (i := 8) (v := ?_) rfl (by kernel_rfl) (by kernel_rfl) (by kernel_rfl) (fun _ _ _ h => h) (Or.inl ⟨by rfl, ?_⟩) hHeld ?_
            rotate_left
            · intro w' c0; go_simp; rfl
            try simp only [Act.put, List.setIfInBounds_toArray, List.set_cons_zero, List.set_cons_succ]
            refine takeL (i := 9) (v := ?_) rfl (by kernel_rfl) (by kernel_rfl) (by kernel_rfl) (fun _ _ _ h => h) (Or.inl ⟨by rfl, ?_⟩) hHeld ?_
            rotate_left
            · intro w' c0; go_simp; rfl
            try simp only [Act.put, List.setIfInBounds_toArray, List.set_cons_zero, List.set_cons_succ]
            refine takeL (i := 10) (v := ?_) rfl (by kernel_rfl) (by kernel_rfl) (by kernel_rfl) (fun _ _ _ h => h) (Or.inl ⟨by rfl, ?_⟩) hHeld ?_
            rotate_left
            · intro w' c0; go_simp; rfl
            try simp only [Act.put, List.setIfInBounds_toArray, List.set_cons_zero, List.set_cons_succ]
            refine takeL (i := 11) (v := ?_) rfl (by kernel_rfl) (by kernel_rfl) (by kernel_rfl) (fun _ _ _ h => h) (Or.inl ⟨by rfl, ?_⟩) hHeld ?_
            rotate_left
            · intro w' c0; go_simp; rfl
            try simp only [Act.put, List.setIfInBounds_toArray, List.set_cons_zero, List.set_cons_succ]
            refine takeL (i := 12) (v := ?_) rfl (by kernel_rfl) (by kernel_rfl) (by kernel_rfl) (fun _ _ _ h => h) (Or.inl ⟨by rfl, ?_⟩) hHeld ?_
            rotate_left
            · intro w' c0; go_simp; rfl
            try simp only [Act.put, List.setIfInBounds_toArray, List.set_cons_zero, List.set_cons_succ]
            refine takeL (i := 13) (v := ?_) rfl (by kernel_rfl) (by kernel_rfl) (by kernel_rfl) (fun _ _ _ h => h) (Or.inl ⟨by rfl, ?_⟩) hHeld ?_
            rotate_left
            · intro w' c0; go_simp; rfl
            try simp only [Act.put, List.setIfInBounds_toArray, List.set_cons_zero, List.set_cons_succ]
            refine wpAnyH_done (by kernel_rfl) ?_ _
            clear hHeld kd kh
            obtain ⟨Y, HYY⟩ : ∃ Y : ByteArray, Hid (⟨el.toArray⟩ = Y) := ⟨_, hid rfl⟩
            obtain ⟨Z, HZZ⟩ : ∃ Y : ByteArray, Hid (⟨(trE el).toArray⟩ = Y) := ⟨_, hid rfl⟩
            have C59 : Hid (∀ W : World, Calls Tryz.prog 59 #[.string Y, .string ⟨#[10]⟩] W fun e w' => e = .returned (.string Z) ∧ w' = W) := hid (fun W => by
              rw [← HYY.out, ← HZZ.out]
              exact Any.strings_TrimSuffix Tryz.lays102 ⟨el.toArray⟩ ⟨#[10]⟩ W (by rw [txt_len]; exact HELN.out))
            have hrow := HSd.out.la
            unfold OwE at hrow
            have hrow' : u0.ownsRow N0 43 2 (.slice (some ⟨eb, 0, none⟩) ne ec) ne (es.flatMap encE) := by rw [← HNE.out]; exact hrow
            obtain ⟨kc, kf, kst⟩ := own_st hrow' (n1 * 2 + 1) (by rw [fX_len (k := 2) _ (fun y _ => encE_len y), HNE.out]; have := HN1.out; omega) (.string Z) rfl
            have kv : u0.cell? ⟨eb, n1 * 2 + 1, none⟩ = some (.string Y) := by
              rw [kc]
              have h5 := fX_at (enc := encE) (k := 2) (d := (0, [])) es (fun y _ => encE_len y) n1 1 (by rw [HNE.out]; have := HN1.out; omega) (by omega)
              rw [h5, HES.out, ← HE1.out]
              simp [encE, sV, HYY.out]
            obtain ⟨u2, HU2⟩ : ∃ u, Hid (u0.setCell ⟨eb, n1 * 2 + 1, none⟩ (.string Z) = u) := ⟨_, rfl⟩
            have HSF : Hid (Sh w1 u2 G1 N0 (.slice (some ⟨hb, 0, none⟩) m hcap) l (xa, xb, some ⟨eb, 0, none⟩, ec, es1 ++ [(ek, trE el)])) := hid (by
              have h1 := HSd.out
              rw [HES.out] at h1
              have h2 := Sh.trim (n := 0) (cap := 0) (t := trE el) h1
              rw [← HU2.out, ← HE1.out, ← HZZ.out]
              exact h2)
            have HF : Hid (RdI w1 u2 G1 (.slice (some ⟨hb, 0, none⟩) m hcap) ((L.take (i + 1)).foldl rdS []) (i + 1)) := hid (.inr ⟨N0, l, _, HSF.out, HNX.out.symm, HOK.out.last rfl rfl HEOK2.out, by have := HLLL.out; omega, by have h1 := HXL.out; rw [HES.out] at h1; simp at h1 ⊢; omega⟩)
            rw [HU2.out] at kst
            have hst1 : u0.setCell ⟨eb, n1 * 2 + 1, none⟩ (.string Z) = u2 := HU2.out
            clear hrow hrow' kc
            go_wp2_with fail
            refine (C59.out _).mono ?_
            rintro e u5 ⟨rfl, rfl⟩
            go_wp2
            go_roundg (k - (i + 1))
            case measure => omega
            case rel => exact ⟨i + 1, by omega, rfl, by go_num, HF⟩
          · have HNX : Hid ((L.take (i + 1)).foldl rdS [] = (l ++ [((xa, xb, ea, ec, es ++ [rdE t]) : Gh)]).map ab) := hid (by
              rw [HST.out, ← HAB.out, List.map_append, List.map_append]
              have : List.map ab [((xa, xb, ea, ec, es) : Gh)] = [(xa.toNat, es)] := rfl
              rw [this, rdS_ed hp (fun h => hn ⟨h.1, by rw [← HNE.out]; exact List.length_pos_iff.2 h.2⟩)]
              rfl)
            have HDB : Hid (Below w2.heap.size w2 w2.drew) := hid ⟨rfl, rfl, rfl, Nat.le_refl _, fun _ _ => rfl⟩
            have HSd : Hid (Sh w1 w2.drew G1 N0 (.slice (some ⟨hb, 0, none⟩) m hcap) l (xa, xb, ea, ec, es)) := hid (HSH.out.below HDB.out)
            have kd := HCE.out w2.drew _ HSd.out rfl
            have HEOK : Hid (LOk (es ++ [rdE t])) := hid (LOk.snoc (HOK.out _ (List.mem_append.2 (.inr (List.mem_singleton.2 rfl)))).2 ⟨kdO_le _, Nat.le_trans (rdE_len t) HTL.out.2⟩)
            by_cases hn1 : t = noM
            · have hne0 : ne = 0 := by
                rcases Nat.eq_zero_or_pos ne with h | h
                · exact h
                · exact absurd ⟨hn1, h⟩ hn
              have hXn : X = ⟨#[92, 32, 78, 111, 32, 110, 101, 119, 108, 105, 110, 101, 32, 97, 116, 32, 101, 110, 100, 32, 111, 102, 32, 102, 105, 108, 101, 10]⟩ := by rw [← HX.out, hn1]; rfl
              have hxe : (X.toList == [92, 32, 78, 111, 32, 110, 101, 119, 108, 105, 110, 101, 32, 97, 116, 32, 101, 110, 100, 32, 111, 102, 32, 102, 105, 108, 101, 10]) = true := by
                rw [← HX.out]
                simp
                exact hn1
              have hnei : ¬ (0 : Int) < (ne : Int) := by omega
              clear hp hn hn1 hXn ks hne0
              go_wp2_with fail
              refine region_U (fun W => W.cell? ⟨hb, m1 * 3 + 2, none⟩ = some (.slice ea ne ec)) 13 (by kernel_rfl) ?_
              have hS0 := kd
              generalize w2.drew = u0 at hS0 HSd HDB kd ⊢
              refine takeU (i := 0) (v := ?_) rfl (by kernel_rfl) (by kernel_rfl) (by kernel_rfl) (by kernel_rfl) (fun _ _ _ h => h) (Or.inl ⟨by rfl, ?_⟩) hS0 ?_
              rotate_left
              · intro w' c0; go_simp; rfl
              try simp only [Act.put, List.setIfInBounds_toArray, List.set_cons_zero, List.set_cons_succ]
              refine takeU (i := 1) (v := ?_) rfl (by kernel_rfl) (by kernel_rfl) (by kernel_rfl) (by kernel_rfl) (fun _ _ _ h => h) (Or.inl ⟨by rfl, ?_⟩) hS0 ?_
              rotate_left
              · intro w' c0; go_simp; rfl
              try simp only [Act.put, List.setIfInBounds_toArray, List.set_cons_zero, List.set_cons_succ]
              refine takeU (i := 2) (v := ?_) rfl (by kernel_rfl) (by kernel_rfl) (by kernel_rfl) (by kernel_rfl) (fun _ _ _ h => h) (Or.inl ⟨by rfl, ?_⟩) hS0 ?_
              rotate_left
              · intro w' c0; go_simp; rfl
              try simp only [Act.put, List.setIfInBounds_toArray, List.set_cons_zero, List.set_cons_succ]
              refine takeU (i := 3) (v := ?_) rfl (by kernel_rfl) (by kernel_rfl) (by kernel_rfl) (by kernel_rfl) (fun _ _ _ h => h) (Or.inl ⟨by rfl, ?_⟩) hS0 ?_
              rotate_left
              · intro w' c0; go_simp; rfl
              try simp only [Act.put, List.setIfInBounds_toArray, List.set_cons_zero, List.set_cons_succ]
              refine takeU (i := 4) (v := ?_) rfl (by kernel_rfl) (by kernel_rfl) (by kernel_rfl) (by kernel_rfl) (fun _ _ _ h => h) (Or.inl ⟨by rfl, ?_⟩) hS0 ?_
              rotate_left
              · intro w' c0; go_simp; rfl
              try simp only [Act.put, List.setIfInBounds_toArray, List.set_cons_zero, List.set_cons_succ]
              refine takeU (i := 5) (v := ?_) rfl (by kernel_rfl) (by kernel_rfl) (by kernel_rfl) (by kernel_rfl) (fun _ _ _ h => h) (Or.inl ⟨by rfl, ?_⟩) hS0 ?_
              rotate_left
              · intro w' c0; go_simp; rfl
              try simp only [Act.put, List.setIfInBounds_toArray, List.set_cons_zero, List.set_cons_succ]
              refine takeU (i := 6) (v := ?_) rfl (by kernel_rfl) (by kernel_rfl) (by kernel_rfl) (by kernel_rfl) (fun _ _ _ h => h) (Or.inl ⟨by rfl, ?_⟩) hS0 ?_
              rotate_left
              · intro w' c0; go_simp; rfl
              try simp only [Act.put, List.setIfInBounds_toArray, List.set_cons_zero, List.set_cons_succ]
              refine takeU (i := 7) (v := ?_) rfl (by kernel_rfl) (by kernel_rfl) (by kernel_rfl) (by kernel_rfl) (fun _ _ _ h => h) (Or.inl ⟨by rfl, ?_⟩) hS0 ?_
              rotate_left
              · intro w' c0; go_simp; rfl
              try simp only [Act.put, List.setIfInBounds_toArray, List.set_cons_zero, List.set_cons_succ]
              refine readyU1 (i := 8) (by kernel_rfl) (consU rfl (fun KK hKK => ?_))
              refine step_callv (by rfl) 60 [.tmp 25] _ [.string X] _ (by rfl) (by rfl) (enter60 _) (C60.out u0) ?_
              rintro e u1 ⟨rfl, hb1⟩
              refine ⟨_, rfl, ?_⟩
              have hS1 := HSd.out.below hb1
              have kd1 := HCE.out u1 _ hS1 rfl
              refine hKK.out _ _ (.inr kd1) ?_
              clear hKK KK
              try simp only [Act.put, List.setIfInBounds_toArray, List.set_cons_zero, List.set_cons_succ]
              obtain ⟨u2, HU2⟩ : ∃ u, Hid (u1.alloc (.cells (encE (rdE t)).toArray 43) = u) := ⟨_, rfl⟩
              have hS2 : Sh w1 u2 G1 N0 (.slice (some ⟨hb, 0, none⟩) m hcap) l (xa, xb, ea, ec, es) := by rw [← HU2.out]; exact hS1.below ((Below.refl _ _).alloc (Nat.le_refl _) _)
              have kd2 := HCE.out u2 _ hS2 rfl
              obtain ⟨K, HKK⟩ : ∃ u, Hid (u1.heap.size = u) := ⟨_, rfl⟩
              have hbs : (Instr.buildSlice 23 1 #[(0, .agg (encE (rdE t)).toArray)]).run Tryz.prog u1 = .ok (.slice (some ⟨K, 0, none⟩) 1 1) u2 := by
                rw [← HU2.out, ← HKK.out]
                exact run_build26 (rdE t).1 (sV (rdE t).2) ⟨_, rfl⟩ u1
              have HPE : Hid (PE u2 (some ⟨K, 0, none⟩) 1 [rdE t]) := hid (by rw [← HU2.out, ← HKK.out]; exact pe_one (rdE t) 43 u1)
              refine readyU1 (i := 9) (by kernel_rfl) (consU rfl (fun KK hKK => ?_))
              refine step_exec (by rfl) (.slice (some ⟨K, 0, none⟩) 1 1) (w' := u2) (exec_bS1 23 1 (.tmp 26) (by rfl) _ _ (by rfl) hbs) ?_
              refine hKK.out _ _ (.inr kd2) ?_
              clear hKK KK
              try simp only [Act.put, List.setIfInBounds_toArray, List.set_cons_zero, List.set_cons_succ]
              refine readyU1 (i := 10) (by kernel_rfl) (consU rfl (fun KK hKK => ?_))
              have hbe : BE 43 u2 u2 N0 (.slice ea ne ec) es := ⟨Below.refl _ _, by have h := hS2.la; unfold OwE slE at h; simp only at h; rw [HNE.out] at h; rw [HNE.out]; exact h, hS2.le⟩
              refine step_appE (w0 := u2) (by rfl) (.tmp 24) (.tmp 27) (by rfl) N0 (.slice ea ne ec) es (by rfl) hbe (some ⟨K, 0, none⟩) 1 [rdE t] (by rfl) HPE.out (by rw [HNE.out]; simp; have := HXL.out; have := HNE.out; omega) ?_
              intro v9 u9 hb9 hg9
              obtain ⟨ea', ec', rfl, _⟩ := hb9.px (d := (0, [])) (fun y _ => encE_len y)
              have hg9' : u2.grownBy u9 (slE (xa, xb, ea, ec, es)).ownBlock := by
                have h : (slE (xa, xb, ea, ec, es)).ownBlock = (Value.slice ea ne ec).ownBlock := by cases ea <;> rfl
                rw [h]; exact hg9
              obtain ⟨hS10, hrow9⟩ := hS2.edit (by rw [HM1.out]; have := HMM.out; omega) hg9' (ea' := ea') (ec' := ec') (es' := es ++ [rdE t]) hb9.own
              rw [HM1.out] at hS10
              have kd9 : u9.cell? ⟨hb, m1 * 3 + 2, none⟩ = some (.slice ea ne ec) := by
                have h4 := (own_st hrow9 (m1 * 3 + 2) (by rw [fX_len (k := 3) _ (fun y _ => encG_len y), HM.out]; have := HMM.out; omega) (.int .i64 0) rfl).1
                rw [h4]
                have h5 := fX_at (enc := encG) (k := 3) (d := g0) (l ++ [(xa, xb, ea, ec, es)]) (fun y _ => encG_len y) l.length 2 (by simp) (by omega)
                rw [HM1.out] at h5
                rw [h5, ← HNE.out]
                have h6 : (l ++ [((xa, xb, ea, ec, es) : Gh)]).getD m1 g0 = (xa, xb, ea, ec, es) := by rw [← HM1.out]; simp
                rw [h6]
                rfl
              obtain ⟨n9, HN9⟩ : ∃ n, Hid ((es ++ [rdE t]).length = n) := ⟨_, rfl⟩
              rw [HN9.out] at hS10 ⊢
              obtain ⟨_, kf9, kst9⟩ := own_st hrow9 (m1 * 3 + 2) (by rw [fX_len (k := 3) _ (fun y _ => encG_len y), HM.out]; have := HMM.out; omega) (.slice ea' n9 ec') rfl
              obtain ⟨u10, HU10⟩ : ∃ u, Hid (u9.setCell ⟨hb, m1 * 3 + 2, none⟩ (.slice ea' n9 ec') = u) := ⟨_, rfl⟩
              rw [HU10.out] at kst9 hS10
              refine hKK.out _ _ (.inr kd9) ?_
              clear hKK KK hS0
              try simp only [Act.put, List.setIfInBounds_toArray, List.set_cons_zero, List.set_cons_succ]
              refine readyU1 (i := 11) (by kernel_rfl) (consU rfl (fun KK hKK => ?_))
              refine step_exec (by rfl) (.pointer (some ⟨hb, m1 * 3, none⟩)) (w' := u9) (by go_simp; try rfl) ?_
              refine hKK.out _ _ (.inr kd9) ?_
              clear hKK KK
              try simp only [Act.put, List.setIfInBounds_toArray, List.set_cons_zero, List.set_cons_succ]
              refine readyU1 (i := 12) (by kernel_rfl) (consU rfl (fun KK hKK => ?_))
              refine step_exec (by rfl) (.pointer (some ⟨hb, m1 * 3 + 2, none⟩)) (w' := u9) (by go_simp; try rfl) ?_
              refine hKK.out _ _ (.inr kd9) ?_
              clear hKK KK
              try simp only [Act.put, List.setIfInBounds_toArray, List.set_cons_zero, List.set_cons_succ]
              have HF : Hid (RdI w1 u10 G1 (.slice (some ⟨hb, 0, none⟩) m hcap) ((L.take (i + 1)).foldl rdS []) (i + 1)) := hid (.inr ⟨N0, l, _, hS10, (by rw [HNX.out, List.map_append, List.map_append]; rfl), HOK.out.last rfl rfl HEOK.out, by have := HLLL.out; omega, by have h1 := HXL.out; simp; omega⟩)
              refine readyU1 (i := 13) (by kernel_rfl) (consU rfl (fun KK hKK => ?_))
              refine step_skip (by rfl) (w' := u10) (by go_simp; exact HU10.out) ?_
              refine hKK.out _ _ (.inl rfl) ?_
              clear hKK KK
              try simp only [Act.put, List.setIfInBounds_toArray, List.set_cons_zero, List.set_cons_succ]
              refine doneU (by kernel_rfl) ?_ _
              clear hS1 hS2 kd1 kd2 hbe hb9 hg9 hg9' hS10 hrow9 kd9 kf9 kst9 kd kh hbs hb1
              go_wp2
              go_roundg (k - (i + 1))
              case measure => omega
              case rel => exact ⟨i + 1, by omega, rfl, by go_num, HF⟩
            · have hxe : (X.toList == [92, 32, 78, 111, 32, 110, 101, 119, 108, 105, 110, 101, 32, 97, 116, 32, 101, 110, 100, 32, 111, 102, 32, 102, 105, 108, 101, 10]) = false := by
                rw [← HX.out]
                simp
                exact hn1
              clear hp hn hn1 ks
              go_wp2_with fail
              refine region_U (fun W => W.cell? ⟨hb, m1 * 3 + 2, none⟩ = some (.slice ea ne ec)) 13 (by kernel_rfl) ?_
              have hS0 := kd
              generalize w2.drew = u0 at hS0 HSd HDB kd ⊢
              refine takeU (i := 0) (v := ?_) rfl (by kernel_rfl) (by kernel_rfl) (by kernel_rfl) (by kernel_rfl) (fun _ _ _ h => h) (Or.inl ⟨by rfl, ?_⟩) hS0 ?_
              rotate_left
              · intro w' c0; go_simp; rfl
              try simp only [Act.put, List.setIfInBounds_toArray, List.set_cons_zero, List.set_cons_succ]
              refine takeU (i := 1) (v := ?_) rfl (by kernel_rfl) (by kernel_rfl) (by kernel_rfl) (by kernel_rfl) (fun _ _ _ h => h) (Or.inl ⟨by rfl, ?_⟩) hS0 ?_
              rotate_left
              · intro w' c0; go_simp; rfl
              try simp only [Act.put, List.setIfInBounds_toArray, List.set_cons_zero, List.set_cons_succ]
              refine takeU (i := 2) (v := ?_) rfl (by kernel_rfl) (by kernel_rfl) (by kernel_rfl) (by kernel_rfl) (fun _ _ _ h => h) (Or.inl ⟨by rfl, ?_⟩) hS0 ?_
              rotate_left
              · intro w' c0; go_simp; rfl
              try simp only [Act.put, List.setIfInBounds_toArray, List.set_cons_zero, List.set_cons_succ]
              refine takeU (i := 3) (v := ?_) rfl (by kernel_rfl) (by kernel_rfl) (by kernel_rfl) (by kernel_rfl) (fun _ _ _ h => h) (Or.inl ⟨by rfl, ?_⟩) hS0 ?_
              rotate_left
              · intro w' c0; go_simp; rfl
              try simp only [Act.put, List.setIfInBounds_toArray, List.set_cons_zero, List.set_cons_succ]
              refine takeU (i := 4) (v := ?_) rfl (by kernel_rfl) (by kernel_rfl) (by kernel_rfl) (by kernel_rfl) (fun _ _ _ h => h) (Or.inl ⟨by rfl, ?_⟩) hS0 ?_
              rotate_left
              · intro w' c0; go_simp; rfl
              try simp only [Act.put, List.setIfInBounds_toArray, List.set_cons_zero, List.set_cons_succ]
              refine takeU (i := 5) (v := ?_) rfl (by kernel_rfl) (by kernel_rfl) (by kernel_rfl) (by kernel_rfl) (fun _ _ _ h => h) (Or.inl ⟨by rfl, ?_⟩) hS0 ?_
              rotate_left
              · intro w' c0; go_simp; rfl
              try simp only [Act.put, List.setIfInBounds_toArray, List.set_cons_zero, List.set_cons_succ]
              refine takeU (i := 6) (v := ?_) rfl (by kernel_rfl) (by kernel_rfl) (by kernel_rfl) (by kernel_rfl) (fun _ _ _ h => h) (Or.inl ⟨by rfl, ?_⟩) hS0 ?_
              rotate_left
              · intro w' c0; go_simp; rfl
              try simp only [Act.put, List.setIfInBounds_toArray, List.set_cons_zero, List.set_cons_succ]
              refine takeU (i := 7) (v := ?_) rfl (by kernel_rfl) (by kernel_rfl) (by kernel_rfl) (by kernel_rfl) (fun _ _ _ h => h) (Or.inl ⟨by rfl, ?_⟩) hS0 ?_
              rotate_left
              · intro w' c0; go_simp; rfl
              try simp only [Act.put, List.setIfInBounds_toArray, List.set_cons_zero, List.set_cons_succ]
              refine readyU1 (i := 8) (by kernel_rfl) (consU rfl (fun KK hKK => ?_))
              refine step_callv (by rfl) 60 [.tmp 25] _ [.string X] _ (by rfl) (by rfl) (enter60 _) (C60.out u0) ?_
              rintro e u1 ⟨rfl, hb1⟩
              refine ⟨_, rfl, ?_⟩
              have hS1 := HSd.out.below hb1
              have kd1 := HCE.out u1 _ hS1 rfl
              refine hKK.out _ _ (.inr kd1) ?_
              clear hKK KK
              try simp only [Act.put, List.setIfInBounds_toArray, List.set_cons_zero, List.set_cons_succ]
              obtain ⟨u2, HU2⟩ : ∃ u, Hid (u1.alloc (.cells (encE (rdE t)).toArray 43) = u) := ⟨_, rfl⟩
              have hS2 : Sh w1 u2 G1 N0 (.slice (some ⟨hb, 0, none⟩) m hcap) l (xa, xb, ea, ec, es) := by rw [← HU2.out]; exact hS1.below ((Below.refl _ _).alloc (Nat.le_refl _) _)
              have kd2 := HCE.out u2 _ hS2 rfl
              obtain ⟨K, HKK⟩ : ∃ u, Hid (u1.heap.size = u) := ⟨_, rfl⟩
              have hbs : (Instr.buildSlice 23 1 #[(0, .agg (encE (rdE t)).toArray)]).run Tryz.prog u1 = .ok (.slice (some ⟨K, 0, none⟩) 1 1) u2 := by
                rw [← HU2.out, ← HKK.out]
                exact run_build26 (rdE t).1 (sV (rdE t).2) ⟨_, rfl⟩ u1
              have HPE : Hid (PE u2 (some ⟨K, 0, none⟩) 1 [rdE t]) := hid (by rw [← HU2.out, ← HKK.out]; exact pe_one (rdE t) 43 u1)
              refine readyU1 (i := 9) (by kernel_rfl) (consU rfl (fun KK hKK => ?_))
              refine step_exec (by rfl) (.slice (some ⟨K, 0, none⟩) 1 1) (w' := u2) (exec_bS1 23 1 (.tmp 26) (by rfl) _ _ (by rfl) hbs) ?_
              refine hKK.out _ _ (.inr kd2) ?_
              clear hKK KK
              try simp only [Act.put, List.setIfInBounds_toArray, List.set_cons_zero, List.set_cons_succ]
              refine readyU1 (i := 10) (by kernel_rfl) (consU rfl (fun KK hKK => ?_))
              have hbe : BE 43 u2 u2 N0 (.slice ea ne ec) es := ⟨Below.refl _ _, by have h := hS2.la; unfold OwE slE at h; simp only at h; rw [HNE.out] at h; rw [HNE.out]; exact h, hS2.le⟩
              refine step_appE (w0 := u2) (by rfl) (.tmp 24) (.tmp 27) (by rfl) N0 (.slice ea ne ec) es (by rfl) hbe (some ⟨K, 0, none⟩) 1 [rdE t] (by rfl) HPE.out (by rw [HNE.out]; simp; have := HXL.out; have := HNE.out; omega) ?_
              intro v9 u9 hb9 hg9
              obtain ⟨ea', ec', rfl, _⟩ := hb9.px (d := (0, [])) (fun y _ => encE_len y)
              have hg9' : u2.grownBy u9 (slE (xa, xb, ea, ec, es)).ownBlock := by
                have h : (slE (xa, xb, ea, ec, es)).ownBlock = (Value.slice ea ne ec).ownBlock := by cases ea <;> rfl
                rw [h]; exact hg9
              obtain ⟨hS10, hrow9⟩ := hS2.edit (by rw [HM1.out]; have := HMM.out; omega) hg9' (ea' := ea') (ec' := ec') (es' := es ++ [rdE t]) hb9.own
              rw [HM1.out] at hS10
              have kd9 : u9.cell? ⟨hb, m1 * 3 + 2, none⟩ = some (.slice ea ne ec) := by
                have h4 := (own_st hrow9 (m1 * 3 + 2) (by rw [fX_len (k := 3) _ (fun y _ => encG_len y), HM.out]; have := HMM.out; omega) (.int .i64 0) rfl).1
                rw [h4]
                have h5 := fX_at (enc := encG) (k := 3) (d := g0) (l ++ [(xa, xb, ea, ec, es)]) (fun y _ => encG_len y) l.length 2 (by simp) (by omega)
                rw [HM1.out] at h5
                rw [h5, ← HNE.out]
                have h6 : (l ++ [((xa, xb, ea, ec, es) : Gh)]).getD m1 g0 = (xa, xb, ea, ec, es) := by rw [← HM1.out]; simp
                rw [h6]
                rfl
              obtain ⟨n9, HN9⟩ : ∃ n, Hid ((es ++ [rdE t]).length = n) := ⟨_, rfl⟩
              rw [HN9.out] at hS10 ⊢
              obtain ⟨_, kf9, kst9⟩ := own_st hrow9 (m1 * 3 + 2) (by rw [fX_len (k := 3) _ (fun y _ => encG_len y), HM.out]; have := HMM.out; omega) (.slice ea' n9 ec') rfl
              obtain ⟨u10, HU10⟩ : ∃ u, Hid (u9.setCell ⟨hb, m1 * 3 + 2, none⟩ (.slice ea' n9 ec') = u) := ⟨_, rfl⟩
              rw [HU10.out] at kst9 hS10
              refine hKK.out _ _ (.inr kd9) ?_
              clear hKK KK hS0
              try simp only [Act.put, List.setIfInBounds_toArray, List.set_cons_zero, List.set_cons_succ]
              refine readyU1 (i := 11) (by kernel_rfl) (consU rfl (fun KK hKK => ?_))
              refine step_exec (by rfl) (.pointer (some ⟨hb, m1 * 3, none⟩)) (w' := u9) (by go_simp; try rfl) ?_
              refine hKK.out _ _ (.inr kd9) ?_
              clear hKK KK
              try simp only [Act.put, List.setIfInBounds_toArray, List.set_cons_zero, List.set_cons_succ]
              refine readyU1 (i := 12) (by kernel_rfl) (consU rfl (fun KK hKK => ?_))
              refine step_exec (by rfl) (.pointer (some ⟨hb, m1 * 3 + 2, none⟩)) (w' := u9) (by go_simp; try rfl) ?_
              refine hKK.out _ _ (.inr kd9) ?_
              clear hKK KK
              try simp only [Act.put, List.setIfInBounds_toArray, List.set_cons_zero, List.set_cons_succ]
              have HF : Hid (RdI w1 u10 G1 (.slice (some ⟨hb, 0, none⟩) m hcap) ((L.take (i + 1)).foldl rdS []) (i + 1)) := hid (.inr ⟨N0, l, _, hS10, (by rw [HNX.out, List.map_append, List.map_append]; rfl), HOK.out.last rfl rfl HEOK.out, by have := HLLL.out; omega, by have h1 := HXL.out; simp; omega⟩)
              refine readyU1 (i := 13) (by kernel_rfl) (consU rfl (fun KK hKK => ?_))
              refine step_skip (by rfl) (w' := u10) (by go_simp; exact HU10.out) ?_
              refine hKK.out _ _ (.inl rfl) ?_
              clear hKK KK
              try simp only [Act.put, List.setIfInBounds_toArray, List.set_cons_zero, List.set_cons_succ]
              refine doneU (by kernel_rfl) ?_ _
              clear hS1 hS2 kd1 kd2 hbe hb9 hg9 hg9' hS10 hrow9 kd9 kf9 kst9 kd kh hbs hb1
              go_wp2
              go_roundg (k - (i + 1))
              case measure => omega
              case rel => exact ⟨i + 1, by omega, rfl, by go_num, HF⟩
    · have hlti : ¬ (i : Int) < (k : Int) := by omega
      have HTA : Hid (L.take i = L) := hid (List.take_of_length_le (by rw [HK.out]; omega))
      rw [HTA.out] at HS
      have HFIN : Hid (∃ l, BG w wr G u3 l ∧ (∀ y ∈ l, OwE wr G y) ∧ l.map ab = rdH s ∧ GOk l) := hid (by
        rw [HRD.out]
        rcases HS.out with ⟨hst, h1, hb0, hg0⟩ | ⟨N0, l, x, hsh, hab, hok, hll, hxl⟩
        · rw [h1, hst]
          exact ⟨[], ⟨HB1.out.trans (hb0.mono HGG.out), ⟨rfl, .inl ⟨rfl, rfl⟩⟩, Nat.le_trans HGG.out hg0⟩, (fun y hy => by cases hy), rfl, (fun y hy => by cases hy)⟩
        · refine ⟨l ++ [x], ⟨HB1.out.trans (hsh.row.below.mono HGG.out), base_mono hsh.row.own HGG.out, Nat.le_trans HGG.out hsh.row.le⟩, fun y hy => ?_, hab, hok⟩
          rcases List.mem_append.1 hy with hy | hy
          · exact base_mono (hsh.pe y hy).1 HGG.out
          · rw [List.mem_singleton.1 hy]
            exact base_mono hsh.la (Nat.le_trans HGG.out hsh.gn))
      go_wp2
      go_ret
      obtain ⟨l, h1, h2, h3, h4⟩ := HFIN.out
      exact ⟨_, l, rfl, h1, h2, h3, h4⟩
end Go.Proofs.YtmpjapcijjjlbaaGreatDoor
