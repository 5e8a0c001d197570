import Derived.Test.YtenbdeljblmbhaaGreatDoorMt17
import Derived.Test.YtenbdeljblmbhaaGreatDoorMt08
import Derived.Test.YtenbdeljblmbhaaGreatDoorMt14
import Derived.Maps.AppendAt
/- Package object: a commit in its box; 'isCommit'. -/
namespace Go.Proofs.YtenbdeljblmbhaaGreatDoor
open Go.RowKit
set_option linter.unusedVariables false
set_option linter.unusedSimpArgs false
/-- A commit. -/
structure Cm where
  tree : List Int
  ids : List (List Int)
  au : Per
  co : Per
  msg : List UInt8
/-- Its value, with where its parents lie. -/
def cmT (c : Cm) (a : Option Addr) (cap : Nat) : List Value := [.slice a c.ids.length cap, .string ⟨c.au.name.toArray⟩, .string ⟨c.au.mail.toArray⟩, .int .i64 c.au.time, .int .i64 c.au.zone, .string ⟨c.co.name.toArray⟩, .string ⟨c.co.mail.toArray⟩, .int .i64 c.co.time, .int .i64 c.co.zone, .string ⟨c.msg.toArray⟩]
def cmV (c : Cm) (a : Option Addr) (cap : Nat) : List Value := row .u8 c.tree ++ cmT c a cap
def WfC (c : Cm) : Prop := (c.tree.length = 20 ∧ ∀ n ∈ c.tree, 0 ≤ n ∧ n < 256) ∧ WfI c.ids
/-- 3.3: which commits can be written. -/
def okC (c : Cm) : Prop := c.ids.length ≤ 8 ∧ c.ids.Nodup ∧ okP c.au ∧ okP c.co ∧ isMsg c.msg = true
theorem cmV_len (c : Cm) (a : Option Addr) (cap : Nat) (h : c.tree.length = 20) : (cmV c a cap).length = 30 := by simp [cmV, cmT, row_len, h]
theorem cmV_at (c : Cm) (a : Option Addr) (cap : Nat) (h : c.tree.length = 20) (i : Nat) : (cmV c a cap)[20 + i]? = (cmT c a cap)[i]? := by
  have hl : (row .u8 c.tree).length = 20 := by rw [row_len]; exact h
  unfold cmV
  rw [List.getElem?_append_right (by omega), hl, Nat.add_sub_cancel_left]
theorem cmV_one (c : Cm) (a : Option Addr) (cap : Nat) : ∀ v ∈ cmV c a cap, v.oneCell' = true := by
  intro v hv
  unfold cmV at hv
  rcases List.mem_append.1 hv with hv | hv
  · exact row_one _ _ v hv
  · simp only [cmT, List.mem_cons, List.not_mem_nil, or_false] at hv
    rcases hv with rfl | rfl | rfl | rfl | rfl | rfl | rfl | rfl | rfl | rfl <;> rfl
theorem get_ofV {l : List Value} {i : Nat} {v : Value} (h : l[i]? = some v) (hi : i < l.length) : l[i]'hi = v := by
  rw [List.getElem?_eq_getElem hi] at h
  exact Option.some.inj h
/-- A block of cells. -/
structure Bk (H : Nat) (TV : List Value) (ty : TypeId) (W : World) : Prop where
  box : W.heap[H]? = some (.cells TV.toArray ty (0, 0))
theorem Bk.below {H : Nat} {TV : List Value} {ty : TypeId} {W W' : World} (h : Bk H TV ty W) (hb : Below W.heap.size W W') : Bk H TV ty W' := ⟨(hb.block _ (lt_of_some h.box)).trans h.box⟩
theorem Bk.lt {H : Nat} {TV : List Value} {ty : TypeId} {W : World} (h : Bk H TV ty W) : H < W.heap.size := lt_of_some h.box
theorem Bk.range {H : Nat} {TV : List Value} {ty : TypeId} {W : World} (h : Bk H TV ty W) : W.rangeAt H 0 TV := range_row h.box
/-- The cells of a commit's box. -/
structure BoxC (H : Nat) (c : Cm) (a : Option Addr) (cap : Nat) (W : World) : Prop where
  id : W.rangeAt H 0 (row .u8 c.tree)
  c20 : W.cell? ⟨H, 20, none⟩ = some (.slice a c.ids.length cap)
  au : W.rangeAt H 21 (perV c.au).toList
  co : W.rangeAt H 25 (perV c.co).toList
  c29 : W.cell? ⟨H, 29, none⟩ = some (.string ⟨c.msg.toArray⟩)
theorem Bk.cells {H : Nat} {ty : TypeId} {W : World} {c : Cm} {a : Option Addr} {cap : Nat} {TV : List Value} (h : Bk H TV ty W) (hv : cmV c a cap = TV) (hl : c.tree.length = 20) : BoxC H c a cap W := by
  subst hv
  have hr := range_row h.box
  have hlr : (row .u8 c.tree).length = 20 := by rw [row_len]; exact hl
  have g2 : ∀ (i : Nat) (v : Value), (cmT c a cap)[i]? = some v → W.cell? ⟨H, 20 + i, none⟩ = some v := fun i v hv => by
    have := hr (20 + i) v ((cmV_at c a cap hl i).trans hv)
    rwa [Nat.zero_add] at this
  refine ⟨fun j v hv => ?_, g2 0 _ rfl, ?_, ?_, g2 9 _ rfl⟩
  · refine hr j v ?_
    unfold cmV
    rw [List.getElem?_append_left (by obtain ⟨h1, _⟩ := List.getElem?_eq_some_iff.1 hv; exact h1)]
    exact hv
  · intro j v hv
    match j, hv with
    | 0, hv => exact (g2 1 _ rfl).trans hv
    | 1, hv => exact (g2 2 _ rfl).trans hv
    | 2, hv => exact (g2 3 _ rfl).trans hv
    | 3, hv => exact (g2 4 _ rfl).trans hv
    | j + 4, hv => simp [perV] at hv
  · intro j v hv
    match j, hv with
    | 0, hv => exact (g2 5 _ rfl).trans hv
    | 1, hv => exact (g2 6 _ rfl).trans hv
    | 2, hv => exact (g2 7 _ rfl).trans hv
    | 3, hv => exact (g2 8 _ rfl).trans hv
    | j + 4, hv => simp [perV] at hv
set_option maxRecDepth 20000 in
set_option maxHeartbeats 1000000 in
theorem isCommit_any (c : Cm) (hf : WfC c) (a : Option Addr) (cap : Nat) (h4 : c.msg.length ≤ 1000000) (w : World) (hP : Pa w a cap c.ids) :
    Calls Tryz.prog 53 #[.agg (cmV c a cap).toArray] w fun e w' => BIs (okC c) e ∧ Below w.heap.size w w' := by
  obtain ⟨TV, HTV⟩ : ∃ l : List Value, Hid (cmV c a cap = l) := ⟨_, rfl⟩
  have hvl : TV.length = 30 := by rw [← HTV.out]; exact cmV_len c a cap hf.1.1
  obtain ⟨n, HN⟩ : ∃ n, Hid (c.ids.length = n) := ⟨_, rfl⟩
  obtain ⟨M, HMM⟩ : ∃ S : ByteArray, Hid (⟨c.msg.toArray⟩ = S) := ⟨_, rfl⟩
  obtain ⟨ms, HMSB⟩ : ∃ b : Bool, Hid (isMsg c.msg = b) := ⟨_, rfl⟩
  obtain ⟨PA, HPA⟩ : ∃ l : List Value, Hid ((perV c.au).toList = l) := ⟨_, rfl⟩
  obtain ⟨PC, HPC⟩ : ∃ l : List Value, Hid ((perV c.co).toList = l) := ⟨_, rfl⟩
  have hiA : (Tryz.prog.info? 58).map (·.size) = some PA.length := by rw [← HPA.out]; exact Tryz.size58
  have hiC : (Tryz.prog.info? 58).map (·.size) = some PC.length := by rw [← HPC.out]; exact Tryz.size58
  have hA20 : TV[20]'(by omega) = .slice a n cap := get_ofV (by rw [← HTV.out, ← HN.out]; exact cmV_at c a cap hf.1.1 0) _
  obtain ⟨G, HG⟩ : ∃ G, Hid (w.heap.size = G) := ⟨_, rfl⟩
  obtain ⟨w0, HW0⟩ : ∃ w0, Hid (w.alloc (.cells TV.toArray 60) = w0) := ⟨_, rfl⟩
  have HB0 : Hid (Below G w w0) := hid (by rw [← HW0.out, ← HG.out]; exact (Below.refl _ w).alloc (Nat.le_refl _) _)
  have BG0 : Hid (Bk G TV 60 w0) := ⟨by rw [← HW0.out, ← HG.out]; exact heap_alloc_new w _⟩
  have HC : Hid (∀ W, Bk G TV 60 W → BoxC G c a cap W) := fun W hW => hW.cells HTV.out hf.1.1
  have HPE : Hid (∀ w, Calls Tryz.prog 100 #[.agg PA.toArray] w fun e w' => BIs (okP c.au) e ∧ Below w.heap.size w w') := fun w => by rw [← HPA.out]; exact isPerson_any c.au w
  have HPF : Hid (∀ w, Calls Tryz.prog 100 #[.agg PC.toArray] w fun e w' => BIs (okP c.co) e ∧ Below w.heap.size w w') := fun w => by rw [← HPC.out]; exact isPerson_any c.co w
  have HMS : Hid (∀ w, Calls Tryz.prog 101 #[.string M] w fun e w' => e = .returned (.bool ms) ∧ w' = w) := fun w => by rw [← HMM.out, ← HMSB.out]; exact isMessage_any c.msg w h4
  have HDF : Hid (n ≤ 8 → ∀ W, Below G w W → Calls Tryz.prog 99 #[.slice a n cap] W fun e w' => BIs c.ids.Nodup e ∧ Below W.heap.size W w') := fun hn W hW => by
    have := differ_any a cap c.ids hf.2 (by rw [HN.out]; omega) W (hP.below (by rw [HG.out]; exact hW))
    rw [HN.out] at this
    exact this
  rw [HTV.out]
  clear hP
  by_cases hn8 : n ≤ 8
  · have hn8i : (n : Int) ≤ 8 := by omega
    go_enter Tryz.func53, Tryz.ntmps53
    go_wp2_with fail
    rw [HG.out, HW0.out]
    clear hA20 hvl
    refine (HDF.out hn8 w0 HB0.out).mono ?_
    rintro ev w1 ⟨hb, hb1⟩
    have HB1 : Hid (Below G w w1) := HB0.out.trans (hb1.mono (Nat.le_of_lt BG0.out.lt))
    have BG1 : Hid (Bk G TV 60 w1) := BG0.out.below hb1
    clear hb1
    rcases bis_or hb with ⟨hy1, rfl⟩ | ⟨hn1, rfl⟩
    · have HY1 : Hid c.ids.Nodup := hy1
      clear hy1 hb
      have R1 : Hid (w1.rangeAt G 21 PA) := hid (by rw [← HPA.out]; exact (HC.out _ BG1.out).au)
      go_wp2_with (first | (refine BigFrame.wpList_want (by rfl) (fun K hK => ?_); refine wp_load_mid 58 _ rfl G 21 rfl PA _ R1.out Tryz.underlying58 rfl hiA ?_; refine hK _ _ ?_; clear hK K) | fail)
      refine (HPE.out w1).mono ?_
      rintro ev w2 ⟨hb, hb2⟩
      have HB2 : Hid (Below G w w2) := HB1.out.trans (hb2.mono (Nat.le_of_lt BG1.out.lt))
      have BG2 : Hid (Bk G TV 60 w2) := BG1.out.below hb2
      clear hb2
      rcases bis_or hb with ⟨hy2, rfl⟩ | ⟨hn2, rfl⟩
      · have HY2 : Hid (okP c.au) := hy2
        clear hy2 hb
        have R2 : Hid (w2.rangeAt G 25 PC) := hid (by rw [← HPC.out]; exact (HC.out _ BG2.out).co)
        go_wp2_with (first | (refine BigFrame.wpList_want (by rfl) (fun K hK => ?_); refine wp_load_mid 58 _ rfl G 25 rfl PC _ R2.out Tryz.underlying58 rfl hiC ?_; refine hK _ _ ?_; clear hK K) | fail)
        refine (HPF.out w2).mono ?_
        rintro ev w3 ⟨hb, hb3⟩
        have HB3 : Hid (Below G w w3) := HB2.out.trans (hb3.mono (Nat.le_of_lt BG2.out.lt))
        have BG3 : Hid (Bk G TV 60 w3) := BG2.out.below hb3
        clear hb3
        rcases bis_or hb with ⟨hy3, rfl⟩ | ⟨hn3, rfl⟩
        · have HY3 : Hid (okP c.co) := hy3
          clear hy3 hb
          have c29 : w3.cell? ⟨G, 29, none⟩ = some (.string M) := by rw [← HMM.out]; exact (HC.out _ BG3.out).c29
          go_wp2_with fail
          refine (HMS.out w3).mono ?_
          rintro ev w' ⟨rfl, rfl⟩
          go_wp2
          go_ret
          refine ⟨⟨ms, rfl, ?_⟩, by rw [HG.out]; exact HB3.out⟩
          rw [← HMSB.out]
          exact ⟨fun h => ⟨by rw [HN.out]; exact hn8, HY1.out, HY2.out, HY3.out, h⟩, fun h => h.2.2.2.2⟩
        · have HOK : Hid (¬ okC c) := fun h => hn3 h.2.2.2.1
          clear hn3 hb
          go_wp2
          go_ret
          exact ⟨bis_false HOK.out, by rw [HG.out]; exact HB3.out⟩
      · have HOK : Hid (¬ okC c) := fun h => hn2 h.2.2.1
        clear hn2 hb
        go_wp2
        go_ret
        exact ⟨bis_false HOK.out, by rw [HG.out]; exact HB2.out⟩
    · have HOK : Hid (¬ okC c) := fun h => hn1 h.2.1
      clear hn1 hb
      go_wp2
      go_ret
      exact ⟨bis_false HOK.out, by rw [HG.out]; exact HB1.out⟩
  · have hn8i : ¬ (n : Int) ≤ 8 := by omega
    have HOK : Hid (¬ okC c) := fun h => hn8 (by rw [← HN.out]; exact h.1)
    go_enter Tryz.func53, Tryz.ntmps53
    go_wp2
    go_ret
    rw [HG.out, HW0.out]
    exact ⟨bis_false HOK.out, HB0.out⟩
end Go.Proofs.YtenbdeljblmbhaaGreatDoor
/- 'Sum' of the document. -/
namespace Go.Proofs.YtenbdeljblmbhaaGreatDoor
open Go.RowKit
set_option linter.unusedVariables false

theorem owns_shape {w : World} {B : Nat} {e : TypeId} {s : Nat} {v : Value} {n : Nat} {xs : List Value} (h : w.ownsRow B e s v n xs) : ∃ a cp, v = .slice a n cp := by
  obtain ⟨_, ⟨rfl, rfl⟩ | ⟨g, cap, cur, rfl, _⟩⟩ := h
  · exact ⟨none, 0, rfl⟩
  · exact ⟨_, cap, rfl⟩

/-- 'append' to what was put out, of any number of bytes (none, too): at a step of a region that draws. -/
theorem step_append_at {P : Program} (w : World) {ops : Array Oper} {o : Oper} {a : Act} {K : Act → World → Prop} {Q : Exit → Act → World → Prop} {E : Prop} (hgd : o.guard = none) (s x : Operand) (t : TypeId)
    (ho : o.op = .call { callee := .builtin .append, args := #[s, x], argTypes := #[t, t] })
    (base : Nat) (e : TypeId) (i : TypeInfo) (z : Value) (size bytes : Nat) (ht : P.underlying t = some (.slice e)) (hi : P.info? e = some i) (hz : i.zero = some z)
    (hsize : i.size = size) (hby : i.bytes = bytes) (hzs : z.cells.size = size) (hsz : 0 < size)
    (v : Value) (n : Nat) (xs : List Value) (hs : a.eval s = v) (hown : w.ownsRow base e size v n xs)
    (ad : Addr) (m c : Nat) (news : List Value) (hx : a.eval x = .slice (some ad) m c) (hl : news.length = m * size) (hnews : ∀ j u, news[j]? = some u → w.cell? (ad.add j) = some u) (h1 : ∀ u ∈ news, u.oneCell' = true)
    (h63 : n + m ≤ maxLen) (hbytes : (n + m) * bytes ≤ 140737488355328) (hbase : base ≤ w.heap.size) (H : Nat) (hH : w.heap.size = H)
    (h : ∀ (ao : Option Addr) (cap : Nat) (w' : World), w'.ownsRow base e size (.slice ao (n + m : Nat) cap) (n + m) (xs ++ news) → w.grownBy w' v.ownBlock → ((Value.slice ao (n + m : Nat) cap).ownBlock = v.ownBlock ∨ (Value.slice ao (n + m : Nat) cap).ownBlock = some H) → K (a.put o.dst (.slice ao (n + m : Nat) cap)) w') :
    if Region.wanted o (yielded ops a.tmps) = true then Oper.wp P o a w K Q else E := by
  have hw : Region.wanted o (yielded ops a.tmps) = true := by simp [Region.wanted, hgd]
  rw [if_pos hw]
  obtain ⟨v', w', hr, h2, h3, _, h5⟩ := run_append_own_at (P := P) w base t o.type e i z size bytes ht hi hz hsize hby hzs hsz v n xs hown ad m c news hl hnews h1 h63 hbytes hbase
  obtain ⟨ao, cap, rfl⟩ := owns_shape h2
  unfold Oper.wp execOp
  simp only [ho, resolve, invoke, builtin, Sem.run_bind, Sem.run_pure, Result.andThen_ok, List.map_toArray, List.map_cons, List.map_nil, hs, hx, hr]
  exact h ao cap w' h2 h3 (hH ▸ h5)

theorem wpList_append_at {P : Program} (w : World) {ops : Array Oper} {rest : List Oper} {o : Oper} {a : Act} {Q : Exit → Act → World → Prop} (hgd : o.guard = none) (s x : Operand) (t : TypeId)
    (ho : o.op = .call { callee := .builtin .append, args := #[s, x], argTypes := #[t, t] })
    (base : Nat) (e : TypeId) (i : TypeInfo) (z : Value) (size bytes : Nat) (ht : P.underlying t = some (.slice e)) (hi : P.info? e = some i) (hz : i.zero = some z)
    (hsize : i.size = size) (hby : i.bytes = bytes) (hzs : z.cells.size = size) (hsz : 0 < size)
    (v : Value) (n : Nat) (xs : List Value) (hs : a.eval s = v) (hown : w.ownsRow base e size v n xs)
    (ad : Addr) (m c : Nat) (news : List Value) (hx : a.eval x = .slice (some ad) m c) (hl : news.length = m * size) (hnews : ∀ j u, news[j]? = some u → w.cell? (ad.add j) = some u) (h1 : ∀ u ∈ news, u.oneCell' = true)
    (h63 : n + m ≤ maxLen) (hbytes : (n + m) * bytes ≤ 140737488355328) (hbase : base ≤ w.heap.size) (H : Nat) (hH : w.heap.size = H)
    (h : ∀ (ao : Option Addr) (cap : Nat) (w' : World), w'.ownsRow base e size (.slice ao (n + m : Nat) cap) (n + m) (xs ++ news) → w.grownBy w' v.ownBlock → ((Value.slice ao (n + m : Nat) cap).ownBlock = v.ownBlock ∨ (Value.slice ao (n + m : Nat) cap).ownBlock = some H) → wpList P ops Q rest (a.put o.dst (.slice ao (n + m : Nat) cap)) w') :
    wpList P ops Q (o :: rest) a w :=
  wpList_plain hgd fun K hK => by
    have := step_append_at (P := P) w (ops := ops) (o := o) (a := a) (K := K) (Q := Q) (E := False) hgd s x t ho base e i z size bytes ht hi hz hsize hby hzs hsz v n xs hs hown ad m c news hx hl hnews h1 h63 hbytes hbase H hH (fun ao cap w' h2 h3 h4 => hK _ _ (h ao cap w' h2 h3 h4))
    rwa [if_pos (by simp [Region.wanted, hgd])] at this


theorem wpList_append_run {P : Program} {w : World} {ops : Array Oper} {rest : List Oper} {o : Oper} {a : Act} {Q : Exit → Act → World → Prop} (hgd : o.guard = none) (s x : Operand) (t : TypeId)
    (ho : o.op = .call { callee := .builtin .append, args := #[s, x], argTypes := #[t, t] }) (sv xv v : Value) (w2 : World) (hs : a.eval s = sv) (hx : a.eval x = xv) (hrun : (Builtin.append_ #[t, t] o.type #[sv, xv]).run P w = .ok v w2) (h : wpList P ops Q rest (a.put o.dst v) w2) :
    wpList P ops Q (o :: rest) a w :=
  wpList_plain hgd fun K hK => by
    unfold Oper.wp execOp
    simp only [ho, resolve, invoke, builtin, Sem.run_bind, Sem.run_pure, Result.andThen_ok, List.map_toArray, List.map_cons, List.map_nil, hs, hx, hrun]
    exact hK _ _ h
theorem append_nil (cap : Nat) (w : World) : (Builtin.append_ #[23, 23] 23 #[.slice none 0 0, .slice none 0 cap]).run Tryz.prog w = .ok (.slice none 0 0) w := by kernel_rfl
theorem append_first (a : Option Addr) (cap : Nat) (zs : List Int) (w : World) (B : Nat) (hB : B ≤ w.heap.size) (hl : zs.length ≤ 300000) (hc : 0 < zs.length → ∃ b off, a = some ⟨b, off, none⟩ ∧ At w b off zs) :
    ∃ w1 ao cp, (Builtin.append_ #[23, 23] 23 #[.slice none 0 0, .slice a zs.length cap]).run Tryz.prog w = .ok (.slice ao zs.length cp) w1 ∧ w1.ownsRow B 5 1 (.slice ao zs.length cp) zs.length (row .u8 zs) ∧ w.grownBy w1 none := by
  obtain ⟨i5, hi, hz0, hz1, hz2⟩ := info_parts Tryz.info5
  cases a with
  | none =>
    have h0 : zs.length = 0 := by
      rcases Nat.eq_zero_or_pos zs.length with h | h
      · exact h
      · obtain ⟨b, off, h1, -⟩ := hc h; cases h1
    obtain rfl : zs = [] := List.eq_nil_of_length_eq_zero h0
    exact ⟨w, none, 0, append_nil cap w, World.ownsRow_nil w B 5 1, World.grownBy.refl _ _⟩
  | some ad =>
    obtain ⟨v', w', hr, h2, h3, -, -⟩ := run_append_own_at (P := Tryz.prog) w B 23 23 5 i5 (.int .u8 0) 1 1 Tryz.underlying23 hi hz0 hz1 hz2 rfl (by omega) (.slice none 0 0) 0 [] (World.ownsRow_nil w B 5 1) ad zs.length cap (row .u8 zs) (by rw [row_len]; omega)
      (fun j u hj => by
        have hjm : j < zs.length := by rcases Nat.lt_or_ge j zs.length with h | h; exact h; rw [List.getElem?_eq_none (by rw [row_len]; exact h)] at hj; cases hj
        obtain ⟨b, off, h1, hat⟩ := hc (by omega)
        cases h1
        rw [row_at .u8 zs j hjm] at hj
        cases hj
        rw [addr_add]; exact hat j hjm) (row_one _ _) (by unfold maxLen; omega) (by omega) hB
    rw [Nat.zero_add, List.nil_append] at h2
    obtain ⟨ao, cp, rfl⟩ := owns_shape h2
    exact ⟨w', ao, cp, hr, h2, h3⟩
theorem slice22lh (b L cp m : Nat) (w : World) (h1 : m + 64 ≤ L) (h2 : L ≤ cp) : (Instr.slice 23 (.slice (some ⟨b, 0, none⟩) L cp) (some (.int .i64 m)) (some (.int .i64 ((m : Int) + 64))) none).run Tryz.prog w = .ok (.slice (some ⟨b, m, none⟩) 64 (cp - m : Nat)) w := by
  rw [run_slice_lh w 23 _ L cp und22 .i64 .i64 m ((m : Int) + 64) (by omega) (by omega) (by omega), size22r]
  simp only [Result.andThen_ok, sliced]
  rw [if_neg (by omega)]
  simp [addr_add]
  omega
theorem pad_iff2 (n j : Nat) (h : j ≤ pads n) : ((n + 1 + j) % 64 = 56) ↔ j = pads n := by unfold pads at *; omega
set_option maxRecDepth 20000 in
set_option maxHeartbeats 4000000 in
theorem ref_any (a : Option Addr) (cap : Nat) (zs : List Int) (w : World) (hl : zs.length ≤ 300000) (hz : IsB zs) (hc : 0 < zs.length → ∃ b off, a = some ⟨b, off, none⟩ ∧ b < w.heap.size ∧ At w b off zs) :
    Calls Tryz.prog 39 #[.slice a zs.length cap] w fun e w' => e = .returned (.agg (row .u8 (sha zs)).toArray) ∧ Below w.heap.size w w' := by
  obtain ⟨i5, hi, hz0, hz1, hz2⟩ := info_parts Tryz.info5
  obtain ⟨zr, HZ⟩ : ∃ zr : Array Value, Hid (zr = (row .u8 z20).toArray) := ⟨_, rfl⟩
  have hz24 := zero24
  rw [← HZ.out] at hz24
  obtain ⟨wA, HWA⟩ : ∃ wA, Hid (wA = w.alloc (.cells zr 31)) := ⟨_, rfl⟩
  have hsA : wA.heap.size = w.heap.size + 1 := by rw [HWA.out]; simp
  have HRA : Hid (wA.heap[w.heap.size]? = some (.cells (row .u8 z20).toArray 31 (0, 0))) := hid (by rw [HWA.out, HZ.out]; exact heap_alloc_new w _)
  have HBA : Hid (Below w.heap.size w wA) := hid (by rw [HWA.out]; exact (Below.refl _ w).alloc (Nat.le_refl _) _)
  obtain ⟨w1, ao, cp, hrun, hown, hgrow⟩ := append_first a cap zs wA (w.heap.size + 1) (by omega) hl (fun h => by obtain ⟨b, off, h1, h2, h3⟩ := hc h; exact ⟨b, off, h1, fun i hi => (HBA.out.cell (p := ⟨b, off + i, none⟩) h2).trans (h3 i hi)⟩)
  obtain ⟨n, HN⟩ : ∃ n, Hid (n = zs.length) := ⟨_, rfl⟩
  rw [← HN.out] at hrun hown hl ⊢
  have hg1 := hgrow.size
  have HR1 : Hid (w1.heap[w.heap.size]? = some (.cells (row .u8 z20).toArray 31 (0, 0))) := (hgrow.block _ (by omega) (by simp)).trans HRA.out
  have HB1 : Hid (Below w.heap.size w w1) := HBA.out.grown hgrow (by omega) (fun k hk => by cases hk)
  have hz1s : w.heap.size + 1 ≤ w1.heap.size := by omega
  rw [HWA.out] at hrun
  clear hgrow hg1 HRA HBA hsA HWA
  go_enter Tryz.func39, Tryz.ntmps39
  go_wp2_with (first
    | refine wpList_append_run rfl _ _ 23 rfl (.slice none 0 0) (.slice a n cap) _ _ rfl rfl hrun ?_
    | (refine wpList_append_lies _ rfl _ _ _ rfl (w.heap.size + 1) 5 i5 (.int .u8 0) 1 1 Tryz.underlying23 hi hz0 hz1 hz2 rfl (by omega) (.slice ao n cp) n (row .u8 zs) rfl (by exact hown.alloc _) ⟨w1.heap.size, 0, none⟩ 1 1 [.int .u8 128] rfl rfl (by intro j u hj; match j, hj with | 0, hj => simp at hj; subst hj; simp [Addr.add]) (by intro u hu; simp at hu; subst hu; rfl) (by omega) (by unfold maxLen; omega) (by omega) (by simp; omega) (w1.heap.size + 1) (by simp) ?_; intro g2 cp2 w2 hown2 hgrow2 hat2 hlt2))
  have HX2 : Hid (Below (w.heap.size + 1) w1 w2) := below_step (Below.refl _ _) hz1s (World.grownBy_alloc w1 _ none) hgrow2 (fun k hk => (own_lt hown k hk).1)
  have HO2 : Hid (w2.ownsRow (w.heap.size + 1) 5 1 (.slice (some ⟨g2, 0, none⟩) (n + 1 + 0 : Nat) cp2) (n + 1 + 0) (row .u8 (zs ++ [128]))) := hid (by rw [row_snoc]; exact hown2)
  clear hown2 hgrow2 hat2 hown hrun
  have hp63 := pads_le n
  go_loopg [3] (pads n) (fun g s wr => ∃ (j gb cp : Nat) (ls : List Int), j ≤ pads n ∧ g = pads n - j ∧ s = .slice (some ⟨gb, 0, none⟩) (n + 1 + j : Nat) cp ∧ Hid (ls = zs ++ 128 :: List.replicate j 0) ∧ wr.ownsRow (w.heap.size + 1) 5 1 (.slice (some ⟨gb, 0, none⟩) (n + 1 + j : Nat) cp) (n + 1 + j) (row .u8 ls) ∧ Hid (Below (w.heap.size + 1) w1 wr))
  case atStart => exact ⟨0, g2, cp2, zs ++ [128], by omega, rfl, rfl, rfl, HO2.out, HX2⟩
  case round =>
    clear HO2 HX2 hlt2
    obtain ⟨j, gb, cp, ls, hj, hk, rfl, HLs, hown, HB⟩ := hrel
    by_cases hlt : j < pads n
    · have hc : ((n : Int) + 1 + j) % 64 ≠ 56 := by have := pad_iff2 n j hj; omega
      go_wp2_with (refine wpList_append_lies _ rfl _ _ _ rfl (w.heap.size + 1) 5 i5 (.int .u8 0) 1 1 Tryz.underlying23 hi hz0 hz1 hz2 rfl (by omega) (.slice (some ⟨gb, 0, none⟩) (n + 1 + j : Nat) cp) (n + 1 + j) (row .u8 ls) rfl (by exact hown.alloc _) ⟨wr.heap.size, 0, none⟩ 1 1 [.int .u8 0] rfl rfl (by intro j u hj; match j, hj with | 0, hj => simp at hj; subst hj; simp [Addr.add]) (by intro u hu; simp at hu; subst hu; rfl) (by omega) (by unfold maxLen; omega) (by omega) (by have := HB.out.size; simp; omega) (wr.heap.size + 1) (by simp) ?_; intro g2 cp2 w3 hown1 hgrow hat hlt2)
      have HB2 : Hid (Below (w.heap.size + 1) w1 w3) := below_step HB.out hz1s (World.grownBy_alloc wr _ none) hgrow (fun k hk => (own_lt hown k hk).1)
      have HO : Hid (w3.ownsRow (w.heap.size + 1) 5 1 (.slice (some ⟨g2, 0, none⟩) (n + 1 + j + 1 : Nat) cp2) (n + 1 + j + 1) (row .u8 (ls ++ [0]))) := hid (by rw [row_snoc]; exact hown1)
      clear hown1 hgrow hat hown hlt2
      go_wp2
      go_roundg (pads n - (j + 1))
      case measure => omega
      case rel => exact ⟨j + 1, g2, cp2, ls ++ [0], by omega, rfl, rfl, hid (by rw [HLs.out, List.replicate_succ', List.append_assoc, List.cons_append]), HO.out, HB2⟩
    · obtain rfl : j = pads n := by omega
      have hc0 : (n + 1 + pads n) % 64 = 56 := (pad_iff2 n (pads n) (Nat.le_refl _)).2 rfl
      obtain ⟨q, HQ⟩ : ∃ q, Hid (q = n + 1 + pads n) := ⟨_, rfl⟩
      have hq64 : q ≤ n + 64 := by have := HQ.out; omega
      rw [← HQ.out] at hown
      have hc2 : (q : Int) % 64 = 56 := by have := HQ.out; omega
      rw [← HQ.out]
      have HLq : Hid (ls = zs ++ 128 :: List.replicate (pads n) 0) := HLs.out
      clear hlt hj hk hc0
      go_wp2
      clear hc2
      go_loopg [3, 5] 8 (fun g s i wr => ∃ (j gb cp : Nat) (ls : List Int), j ≤ 8 ∧ g = 8 - j ∧ i = .int .i64 (7 - (j : Int)) ∧ s = .slice (some ⟨gb, 0, none⟩) (q + j : Nat) cp ∧ Hid (ls = zs ++ (128 :: List.replicate (pads n) 0 ++ (List.range j).map (be8 (8 * n)))) ∧ wr.ownsRow (w.heap.size + 1) 5 1 (.slice (some ⟨gb, 0, none⟩) (q + j : Nat) cp) (q + j) (row .u8 ls) ∧ Hid (Below (w.heap.size + 1) w1 wr))
      case atStart => exact ⟨0, gb, cp, ls, by omega, rfl, rfl, rfl, hid (by rw [HLq.out]; simp), hown, HB⟩
      case round =>
        clear hown HB
        obtain ⟨j, gb, cp, ls, hj, hk, rfl, rfl, HLs, hown, HB⟩ := hrel
        by_cases hlt : j < 8
        · obtain ⟨x, HX⟩ : ∃ x, Hid (x = be8 (8 * n) j) := ⟨_, rfl⟩
          obtain ⟨k, HK⟩ : ∃ k : Nat, Hid (k = 7 - j) := ⟨_, rfl⟩
          have hk7 : (7 : Int) - j = (k : Int) := by have := HK.out; omega
          have hk8 : k ≤ 7 := by have := HK.out; omega
          rw [hk7]
          have hx : (n : Int) * 8 / 2 ^ (8 * k) % 256 = x := by rw [HX.out, HK.out]; unfold be8; rw [Int.natCast_emod, Int.natCast_ediv, Int.natCast_mul, Int.natCast_pow, Int.mul_comm]; rfl
          go_wp2_with (refine wpList_append_lies _ rfl _ _ _ rfl (w.heap.size + 1) 5 i5 (.int .u8 0) 1 1 Tryz.underlying23 hi hz0 hz1 hz2 rfl (by omega) (.slice (some ⟨gb, 0, none⟩) (q + j : Nat) cp) (q + j) (row .u8 ls) rfl (by exact hown.alloc _) ⟨wr.heap.size, 0, none⟩ 1 1 [.int .u8 x] rfl rfl (by intro j u hj; match j, hj with | 0, hj => simp at hj; subst hj; simp [Addr.add]) (by intro u hu; simp at hu; subst hu; rfl) (by omega) (by unfold maxLen; omega) (by omega) (by have := HB.out.size; simp; omega) (wr.heap.size + 1) (by simp) ?_; intro g2 cp2 w3 hown1 hgrow hat hlt2)
          have HB2 : Hid (Below (w.heap.size + 1) w1 w3) := below_step HB.out hz1s (World.grownBy_alloc wr _ none) hgrow (fun k hk => (own_lt hown k hk).1)
          have HO : Hid (w3.ownsRow (w.heap.size + 1) 5 1 (.slice (some ⟨g2, 0, none⟩) (q + j + 1 : Nat) cp2) (q + j + 1) (row .u8 (ls ++ [x]))) := hid (by rw [row_snoc]; exact hown1)
          clear hown1 hgrow hat hown hx hlt2
          go_wp2
          go_roundg (8 - (j + 1))
          case measure => omega
          case rel => exact ⟨j + 1, g2, cp2, ls ++ [x], by omega, rfl, by have := HK.out; go_num, rfl, hid (by rw [HLs.out, HX.out, List.range_succ, List.map_append, List.append_assoc, List.append_assoc]; rfl), HO.out, HB2⟩
        · obtain rfl : j = 8 := by omega
          have HE : Hid (ls = zs ++ endOf n) := hid (by rw [HLs.out]; rfl)
          obtain ⟨T, HT⟩ : ∃ T, Hid (T = q + 8) := ⟨_, rfl⟩
          have hTl : ls.length = T := by rw [HE.out, List.length_append, endOf_len, ← HN.out]; have := HT.out; have := HQ.out; omega
          have hT64 : T % 64 = 0 := by have := end_mod n; rw [← hTl, HE.out, List.length_append, ← HN.out]; exact this
          have hTb : T ≤ 300200 := by have := HT.out; omega
          have hlsb : IsB ls := by rw [HE.out]; exact hz.app (endOf_isB n)
          rw [← HT.out] at hown
          rw [← HT.out]
          have hcpT : T ≤ cp := by
            rcases hown.2 with ⟨_, h0⟩ | ⟨g, cap, cur, hv, _, _, h1, _⟩
            · have := HT.out; omega
            · simp only [Value.slice.injEq] at hv; omega
          have hgbl := own_lt hown gb rfl
          have HAt : Hid (∀ i, i < T → wr.cell? ⟨gb, i, none⟩ = some (.int .u8 (ls.getD i 0))) := fun i hi => by rw [hown.cellAt i (by omega), row_at .u8 ls i (by omega)]
          have HRB : Hid (wr.heap[w.heap.size]? = some (.cells (row .u8 z20).toArray 31 (0, 0))) := (HB.out.block _ (by omega)).trans HR1.out
          have HBB : Hid (Below w.heap.size w wr) := HB1.out.trans (HB.out.mono (by omega))
          obtain ⟨wB, rfl⟩ : ∃ wB, wB = wr := ⟨_, rfl⟩
          have hzB : w.heap.size + 1 ≤ wB.heap.size := by have := HB.out.size; omega
          have HTh : Hid ((wB.alloc (.cells #[.int .u32 0, .int .u32 0, .int .u32 0, .int .u32 0, .int .u32 0] 149)).there wB.heap.size 0 5) := there_cells (heap_alloc_new wB _) rfl
          obtain ⟨w5, HW5⟩ : ∃ w5, Hid (w5 = (wB.alloc (.cells #[.int .u32 0, .int .u32 0, .int .u32 0, .int .u32 0, .int .u32 0] 149)).setCells wB.heap.size 0 (#[.int .u32 1732584193, .int .u32 4023233417, .int .u32 2562383102, .int .u32 271733878, .int .u32 3285377520] : Array Value).toList) := ⟨_, rfl⟩
          have H9 : Hid (w5.heap[wB.heap.size]? = some (.cells #[.int .u32 1732584193, .int .u32 4023233417, .int .u32 2562383102, .int .u32 271733878, .int .u32 3285377520] 149 (0, 0))) := hid (by rw [HW5.out]; exact setCells5 _ _ _ _ _ _ _ _ _ _ _ _ _ (heap_alloc_new wB _))
          have HX5 : Hid (Below wB.heap.size wB w5) := hid (by rw [HW5.out]; exact below_setCells (Nat.le_refl _) _ _ _ _ ((Below.refl _ _).alloc (Nat.le_refl _) _))
          have hz5 : wB.heap.size < w5.heap.size := by rw [HW5.out, size_setCells]; simp
          replace hown := hid hown
          replace hTl := hid hTl
          obtain ⟨NB, HNB⟩ : ∃ NB, Hid (NB = T / 64) := ⟨_, rfl⟩
          have hNB : Hid (T = 64 * NB) := hid (by have := HNB.out; omega)
          clear hj hk hlt
          go_wp2_with (refine wpList_store_mid rfl 149 _ _ rfl wB.heap.size 0 _ rfl rfl HTh.out Tryz.size149 (by simp [Value.oneCell']) ?_; rw [← HW5.out])
          go_loopg [7] NB (fun g i wr => ∃ (k : Nat) (s : S5), k ≤ NB ∧ g = NB - k ∧ i = .int .i64 (64 * k : Nat) ∧ Hid (s = ab ls k) ∧ Hid (wr.heap[wB.heap.size]? = some (.cells #[.int .u32 s.a, .int .u32 s.b, .int .u32 s.c, .int .u32 s.d, .int .u32 s.e] 149 (0, 0))) ∧ Hid (Below wB.heap.size wB wr) ∧ wB.heap.size < wr.heap.size)
          case atStart => exact ⟨0, init5, by omega, rfl, rfl, rfl, H9, HX5, hz5⟩
          case round =>
            clear H9 HX5 hz5
            obtain ⟨k, ⟨a0, b0, c0, d0, e0⟩, hk, hg, rfl, HSt, HR, HBr, hzr⟩ := hrel
            obtain ⟨p, HP⟩ : ∃ p, Hid (p = 64 * k) := ⟨_, rfl⟩
            rw [← HP.out]
            by_cases hlt : k < NB
            · have hpT : (p : Int) < T := by have := HP.out; have := hNB.out; omega
              have hp64 : p + 64 ≤ T := by have := HP.out; have := hNB.out; omega
              obtain ⟨q0, q1, q2, q3, q4⟩ := u5_cells HR.out
              obtain ⟨ck, HCK⟩ : ∃ ck, Hid (ck = (ls.drop (64 * k)).take 64) := ⟨_, rfl⟩
              have hckl : ck.length = 64 := by rw [HCK.out, List.length_take, List.length_drop, hTl.out]; have := HP.out; omega
              have hckb : IsB ck := by rw [HCK.out]; exact (hlsb.drop _).take _
              have hat : At wr gb p ck := fun i hi => by
                have e : ck.getD i 0 = ls.getD (p + i) 0 := by rw [HCK.out, List.getD_eq_getElem?_getD, List.getElem?_take, if_pos (by omega), List.getElem?_drop, ← List.getD_eq_getElem?_getD, HP.out]
                rw [e]; exact (HBr.out.cell (p := ⟨gb, p + i, none⟩) hgbl.2).trans (HAt.out _ (by omega))
              have hwp : IntKind.i64.wrap ((p : Int) + 64) = (p : Int) + 64 := by rw [IntKind.wrap_i64]; omega
              have hsl := fun w => slice22lh gb T cp p w hp64 hcpT
              obtain ⟨cpx, HCX⟩ : ∃ c, Hid (c = cp - p) := ⟨_, rfl⟩
              rw [← HCX.out] at hsl
              obtain ⟨s1, HS1⟩ : ∃ s1, Hid (s1 = comp ⟨a0, b0, c0, d0, e0⟩ ck) := ⟨_, rfl⟩
              have hblk := fun w1 (h : At w1 gb p ck) (h2 : gb < w1.heap.size) => block_any ⟨a0, b0, c0, d0, e0⟩ gb p cpx ck w1 (by rw [HSt.out]; exact ab_ok _ _) hckl hckb h h2
              rw [← HS1.out] at hblk
              obtain ⟨x0, x1, x2, x3, x4⟩ := s1
              have hblk' : ∀ w1, At w1 gb p ck → gb < w1.heap.size → Calls Tryz.prog 80 #[.agg #[.int .u32 a0, .int .u32 b0, .int .u32 c0, .int .u32 d0, .int .u32 e0], .slice (some ⟨gb, p, none⟩) 64 cpx] w1 fun e w' => e = .returned (.agg #[.int .u32 x0, .int .u32 x1, .int .u32 x2, .int .u32 x3, .int .u32 x4]) ∧ Below w1.heap.size w1 w' := hblk
              clear hblk
              have hgz : gb < wr.heap.size := by omega
              replace hckl := hid hckl
              go_wp2
              go_region_with (go_at_call 80; refine (hblk' _ (by exact hat) (by exact hgz)).mono ?_; rintro e w6 ⟨rfl, hb6⟩; have H6 := hid ((hb6.block wB.heap.size hzr).trans HR.out); obtain ⟨y0, y1, y2, y3, y4⟩ := u5_cells H6.out; have g0 := frozen_of_row w6 wB.heap.size 0 _ 149 H6.out; have g1 := frozen_of_row w6 wB.heap.size 1 _ 149 H6.out; have g2 := frozen_of_row w6 wB.heap.size 2 _ 149 H6.out; have g3 := frozen_of_row w6 wB.heap.size 3 _ 149 H6.out; have g4 := frozen_of_row w6 wB.heap.size 4 _ 149 H6.out; replace hb6 := hid hb6)
              have HF6 : Hid ((((((w6.setCell ⟨wB.heap.size, 0, none⟩ (.int .u32 x0)).setCell ⟨wB.heap.size, 1, none⟩ (.int .u32 x1)).setCell ⟨wB.heap.size, 2, none⟩ (.int .u32 x2)).setCell ⟨wB.heap.size, 3, none⟩ (.int .u32 x3)).setCell ⟨wB.heap.size, 4, none⟩ (.int .u32 x4)).heap[wB.heap.size]? = some (.cells #[.int .u32 x0, .int .u32 x1, .int .u32 x2, .int .u32 x3, .int .u32 x4] 149 (0, 0))) := setCells5 w6 wB.heap.size 149 _ _ _ _ _ _ _ _ _ _ H6.out
              have HG6 : Hid (Below wB.heap.size wB (((((w6.setCell ⟨wB.heap.size, 0, none⟩ (.int .u32 x0)).setCell ⟨wB.heap.size, 1, none⟩ (.int .u32 x1)).setCell ⟨wB.heap.size, 2, none⟩ (.int .u32 x2)).setCell ⟨wB.heap.size, 3, none⟩ (.int .u32 x3)).setCell ⟨wB.heap.size, 4, none⟩ (.int .u32 x4))) := below_setCells (Nat.le_refl _) [.int .u32 x0, .int .u32 x1, .int .u32 x2, .int .u32 x3, .int .u32 x4] 0 _ _ (HBr.out.trans (Below.mono (show Below wr.heap.size wr w6 from ⟨hb6.out.os, hb6.out.tape, hb6.out.output, hb6.out.size, hb6.out.block⟩) (by omega)))
              have hz6 : wB.heap.size < w6.heap.size := Nat.lt_of_lt_of_le hzr hb6.out.size
              clear y0 y1 y2 y3 y4 g0 g1 g2 g3 g4 q0 q1 q2 q3 q4 hsl hwp hblk' hat
              go_wp2
              go_roundg (NB - (k + 1))
              case measure => omega
              case rel => exact ⟨k + 1, ⟨x0, x1, x2, x3, x4⟩, by omega, rfl, by have := HP.out; go_num, hid (by rw [HS1.out, HSt.out, HCK.out]; rfl), HF6, HG6, by simpa [World.setCell] using hz6⟩
            · obtain rfl : k = NB := by omega
              have hpT : p = T := by have := HP.out; have := hNB.out; omega
              subst hpT
              obtain ⟨s5, HS5⟩ : ∃ s5 : S5, Hid (s5 = ⟨a0, b0, c0, d0, e0⟩) := ⟨_, rfl⟩
              have HSH : Hid (sha zs = outAt s5 20) := hid (by unfold sha; rw [HS5.out, HSt.out, ← HN.out, ← HE.out, hTl.out, ← HNB.out])
              have hok : S5.ok s5 := by rw [HS5.out, HSt.out]; exact ab_ok _ _
              obtain ⟨sl, HSL⟩ : ∃ sl, Hid (sl = s5.l) := ⟨_, rfl⟩
              have hsll : sl.length = 5 := by rw [HSL.out]; rfl
              have hslw : IsW sl := by rw [HSL.out]; exact l_isW' s5 hok
              have HH : Hid (wr.heap[wB.heap.size]? = some (.cells (row .u32 sl).toArray 149 (0, 0))) := hid (by rw [HSL.out, HS5.out]; exact HR.out)
              have HRr : Hid (wr.heap[w.heap.size]? = some (.cells (row .u8 z20).toArray 31 (0, 0))) := (HBr.out.block _ (by omega)).trans HRB.out
              have HBw : Hid (Below w.heap.size w wr) := HBB.out.trans (HBr.out.mono (by omega))
              obtain ⟨wC, rfl⟩ : ∃ wC, wC = wr := ⟨_, rfl⟩
              have HI3 : Hid ((wC.alloc (.cells zr 31)).heap[wC.heap.size]? = some (.cells (row .u8 (outAt s5 (4 * 0))).toArray 31 (0, 0))) := hid (by rw [outAt_zero, ← HZ.out]; exact heap_alloc_new wC _)
              have HR4 : Hid ((wC.alloc (.cells zr 31)).heap[w.heap.size]? = some (.cells (row .u8 z20).toArray 31 (0, 0))) := hid (by rw [Below.heap_alloc _ _ _ (by omega)]; exact HRr.out)
              have HH4 : Hid ((wC.alloc (.cells zr 31)).heap[wB.heap.size]? = some (.cells (row .u32 sl).toArray 149 (0, 0))) := hid (by rw [Below.heap_alloc _ _ _ (by omega)]; exact HH.out)
              have HB4 : Hid (Below w.heap.size w (wC.alloc (.cells zr 31))) := HBw.out.alloc (by omega) _
              have hwC : w.heap.size < wB.heap.size := by omega
              clear HR HRr HH HBw
              go_wp2
              go_loopg [9] 5 (fun g i wr => ∃ j : Nat, j ≤ 5 ∧ g = 5 - j ∧ i = .int .i64 j ∧ Hid (wr.heap[wC.heap.size]? = some (.cells (row .u8 (outAt s5 (4 * j))).toArray 31 (0, 0))) ∧ Hid (wr.heap[w.heap.size]? = some (.cells (row .u8 z20).toArray 31 (0, 0))) ∧ Hid (wr.heap[wB.heap.size]? = some (.cells (row .u32 sl).toArray 149 (0, 0))) ∧ Hid (Below w.heap.size w wr))
              case atStart => exact ⟨0, by omega, rfl, rfl, HI3, HR4, HH4, HB4⟩
              case round =>
                clear HI3 HR4 HH4 HB4
                obtain ⟨j, hj, hg2, rfl, HI, HR, HH, HBx⟩ := hrel
                by_cases hlt2 : j < 5
                · obtain ⟨x, HX⟩ : ∃ x, Hid (x = sl.getD j 0) := ⟨_, rfl⟩
                  have hx : U x := by rw [HX.out]; exact hslw.at j
                  obtain ⟨hx1, hx2⟩ := hx
                  obtain ⟨m, HM⟩ : ∃ m, Hid (m = 4 * j) := ⟨_, rfl⟩
                  have hm : (4 : Int) * j = (m : Int) := by have := HM.out; omega
                  have hm16 : m ≤ 16 := by have := HM.out; omega
                  rw [← HM.out] at HI
                  go_wp2
                  go_loopg [10] 4 (fun g i wr => ∃ c : Nat, c ≤ 4 ∧ g = 4 - c ∧ i = .int .i64 c ∧ Hid (wr.heap[wC.heap.size]? = some (.cells (row .u8 (outAt s5 (m + c))).toArray 31 (0, 0))) ∧ Hid (wr.heap[w.heap.size]? = some (.cells (row .u8 z20).toArray 31 (0, 0))) ∧ Hid (wr.heap[wB.heap.size]? = some (.cells (row .u32 sl).toArray 149 (0, 0))) ∧ Hid (Below w.heap.size w wr))
                  case atStart => exact ⟨0, by omega, rfl, rfl, HI, HR, HH, HBx⟩
                  case round =>
                    clear HI HR HH HBx
                    obtain ⟨c, hc4, hg3, rfl, HI, HR, HH, HBx⟩ := hrel
                    by_cases hlt3 : c < 4
                    · have cx : wr.cell? ⟨wB.heap.size, j, none⟩ = some (.int .u32 x) := by rw [HX.out]; exact row_cell HH.out j (by omega)
                      have d0 := row_cell HI.out (m + c) (by rw [outAt_len]; omega)
                      have f0 := frozen_of_row wr wC.heap.size (m + c) _ 31 HI.out
                      obtain ⟨sh, HSHF⟩ : ∃ sh : Nat, Hid (sh = 24 - 8 * c) := ⟨_, rfl⟩
                      have hsh : (24 : Int) - 8 * c = (sh : Int) := by have := HSHF.out; omega
                      have hsh2 : sh ≤ 24 := by have := HSHF.out; omega
                      have bi : (j : Int) < 5 := by omega
                      go_wp2
                      go_roundg (4 - (c + 1))
                      case measure => omega
                      case rel =>
                        refine ⟨c + 1, by omega, rfl, by go_num, hid ?_, hid ?_, hid ?_, HBx.out.setCell (by show w.heap.size ≤ wC.heap.size; omega) _⟩
                        · rw [heap_setCell_same wr _ _ _ _ _ HI.out, row_set, ← Nat.add_assoc, outAt_step s5 (m + c) (by omega), show (m + c) / 4 = j from by have := HM.out; omega, show (m + c) % 4 = c from by have := HM.out; omega, ← HSHF.out, ← HSL.out, ← HX.out]
                        · rw [Below.heap_setCell wr ⟨wC.heap.size, m + c, none⟩ _ w.heap.size (by show w.heap.size ≠ wC.heap.size; omega)]; exact HR.out
                        · rw [Below.heap_setCell wr ⟨wC.heap.size, m + c, none⟩ _ wB.heap.size (by show wB.heap.size ≠ wC.heap.size; omega)]; exact HH.out
                    · obtain rfl : c = 4 := by omega
                      go_wp2
                      go_roundg (5 - (j + 1))
                      case measure => omega
                      case rel => exact ⟨j + 1, by omega, rfl, by go_num, hid (by rw [show 4 * (j + 1) = m + 4 from by have := HM.out; omega]; exact HI.out), HR, HH, HBx⟩
                · obtain rfl : j = 5 := by omega
                  obtain ⟨fr, HFR⟩ : ∃ fr, Hid (fr = outAt s5 (4 * 5)) := ⟨_, rfl⟩
                  rw [← HFR.out] at HI
                  have hfl : fr.length = 20 := by rw [HFR.out]; exact outAt_len _ _
                  have HEf : Hid (fr = sha zs) := hid (by rw [HFR.out, HSH.out])
                  have hi24 : (Tryz.prog.info? 31).map (·.size) = some (row .u8 fr).length := by rw [row_len, hfl]; exact Tryz.size31
                  have T1 : Hid (wr.there w.heap.size 0 (row .u8 fr).toArray.size) := hid (by rw [row_size, hfl]; exact there_row HR.out rfl)
                  have T2 : Hid ((Tryz.prog.info? 31).map (·.size) = some (row .u8 fr).toArray.size) := hid (by rw [row_size, hfl]; exact Tryz.size31)
                  have T3 : Hid ((row .u8 fr).toArray.all (·.oneCell') = true) := all_oneCell_toArray (row_one _ _)
                  have T4 : Hid (wr.there w.heap.size 0 (row .u8 fr).length) := hid (by rw [row_len, hfl]; exact there_row HR.out rfl)
                  go_wp2_with (first | refine wpList_load_mid rfl 31 _ rfl wC.heap.size 0 rfl (row .u8 fr) _ (range_row HI.out) Tryz.underlying31 rfl hi24 ?_ | refine wpList_store_mid rfl 31 _ _ rfl w.heap.size 0 (row .u8 fr).toArray rfl rfl T1.out T2.out T3.out ?_)
                  exact bodyPost_ret (v := .agg (row .u8 fr).toArray) (results_mid Tryz.results39 _ _ w.heap.size _ _ rfl (World.rangeAt_setCells_same wr w.heap.size 0 _ T4.out) Tryz.underlying31 rfl hi24) rfl ⟨by rw [HEf.out], below_setCells (Nat.le_refl _) _ _ _ _ HBx.out⟩
end Go.Proofs.YtenbdeljblmbhaaGreatDoor
/- Package object: WriteCommit. -/
namespace Go.Proofs.YtenbdeljblmbhaaGreatDoor
open Go.RowKit
set_option linter.unusedVariables false
set_option linter.unusedSimpArgs false
def w_tree : ByteArray := ⟨#[116, 114, 101, 101]⟩
def w_parent : ByteArray := ⟨#[112, 97, 114, 101, 110, 116]⟩
def w_author : ByteArray := ⟨#[97, 117, 116, 104, 111, 114]⟩
def w_committer : ByteArray := ⟨#[99, 111, 109, 109, 105, 116, 116, 101, 114]⟩
/-- 3.3: a commit, in bytes. -/
def cmB (c : Cm) : List UInt8 :=
  ln2 w_tree.data.toList (hexB c.tree) ++ (c.ids.flatMap (fun x => ln2 w_parent.data.toList (hexB x)) ++ (ln2 w_author.data.toList (perB c.au) ++ ln2 w_committer.data.toList (perB c.co))) ++ 10 :: c.msg
/-- What 'WriteCommit' gives. -/
def PostC (c : Cm) (w : World) (e : Ending) (w' : World) : Prop := Below w.heap.size w w' ∧
  ((okC c ∧ ∃ g cap : Nat, e = .returned (.tuple #[.slice (some ⟨g, 0, none⟩) (cmB c).length cap, .nilIface]) ∧ w.heap.size ≤ g ∧ Mk w' g cap (nums (cmB c))) ∨ (¬ okC c ∧ e = .returned (.tuple #[.slice none 0 0, .iface 35 (.int .i64 22)])))
theorem Tryz.info9 : (Tryz.prog.info? 9).map (fun i => (i.zero, i.size, i.bytes)) = some (some (.string ⟨#[]⟩), 1, 16) := by kernel_rfl
theorem Tryz.size60 : (Tryz.prog.info? 60).map (·.size) = some 30 := by kernel_rfl
def lnS (wd : ByteArray) (x : List UInt8) : ByteArray := ⟨(ln2 wd.data.toList x).toArray⟩
/-- The lines of a commit's first ids. -/
def lines (c : Cm) (i : Nat) : List ByteArray := lnS w_tree (hexB c.tree) :: (c.ids.take i).map fun x => lnS w_parent (hexB x)
theorem lines_len (c : Cm) (i : Nat) (h : i ≤ c.ids.length) : (lines c i).length = i + 1 := by simp [lines, h]
theorem lines_snoc (c : Cm) (i : Nat) (h : i < c.ids.length) : lines c (i + 1) = lines c i ++ [lnS w_parent (hexB (c.ids.getD i []))] := by
  simp only [lines]
  rw [take_snocI c.ids i h]
  simp
theorem join_nil : ∀ l : List (List UInt8), Lib.join l [] = l.flatten
  | [] => rfl
  | [a] => by simp [Lib.join, List.intercalate]
  | a :: b :: r => by
    have := join_nil (b :: r)
    unfold Lib.join List.intercalate at this ⊢
    rw [List.intersperse_cons_cons, List.flatten_cons, List.flatten_cons, this]
    simp
theorem lines_all (c : Cm) : Lib.join (bl (lines c c.ids.length ++ [lnS w_author (perB c.au), lnS w_committer (perB c.co)])) [] ++ 10 :: c.msg = cmB c := by
  rw [join_nil]
  simp [bl, lines, cmB, lnS, List.flatMap, Function.comp_def]
theorem flat_len (ids : List (List Int)) (h : WfI ids) : (ids.flatMap (fun x => ln2 w_parent.data.toList (hexB x))).length = 48 * ids.length := by
  induction ids with
  | nil => rfl
  | cons x r ih =>
    have hx := (h x (by simp)).1
    have := ih (fun y hy => h y (by simp [hy]))
    rw [List.flatMap_cons, List.length_append, this]
    have e : (ln2 w_parent.data.toList (hexB x)).length = 48 := by
      simp only [ln2, List.length_append, List.length_cons, List.length_nil, hexB_len, hx]
      rfl
    rw [e, List.length_cons]
    omega
theorem lines_short (c : Cm) (hf : WfC c) (hok : okC c) : (Lib.join (bl (lines c c.ids.length ++ [lnS w_author (perB c.au), lnS w_committer (perB c.co)])) []).length ≤ 100000 := by
  have e : Lib.join (bl (lines c c.ids.length ++ [lnS w_author (perB c.au), lnS w_committer (perB c.co)])) [] = ln2 w_tree.data.toList (hexB c.tree) ++ (c.ids.flatMap (fun x => ln2 w_parent.data.toList (hexB x)) ++ (ln2 w_author.data.toList (perB c.au) ++ ln2 w_committer.data.toList (perB c.co))) := by
    rw [join_nil]
    simp [bl, lines, lnS, List.flatMap, Function.comp_def]
  rw [e]
  have h1 := flat_len c.ids hf.2
  have h2 := perB_len c.au hok.2.2.1
  have h3 := perB_len c.co hok.2.2.2.1
  have h4 := hok.1
  have e1 : (ln2 w_tree.data.toList (hexB c.tree)).length = 46 := by
    simp only [ln2, List.length_append, List.length_cons, List.length_nil, hexB_len, hf.1.1]
    rfl
  have e2 : (ln2 w_author.data.toList (perB c.au)).length = (perB c.au).length + 8 := by
    simp only [ln2, List.length_append, List.length_cons, List.length_nil]
    have : w_author.data.toList.length = 6 := rfl
    omega
  have e3 : (ln2 w_committer.data.toList (perB c.co)).length = (perB c.co).length + 11 := by
    simp only [ln2, List.length_append, List.length_cons, List.length_nil]
    have : w_committer.data.toList.length = 9 := rfl
    omega
  simp only [List.length_append, e1, h1, e2, e3]
  omega
/-- A block of one text is a row of its own. -/
theorem own_one (w : World) (B : Nat) (x : ByteArray) (h : B ≤ w.heap.size) : (w.alloc (.cells #[.string x] 9)).ownsRow B 9 1 (.slice (some ⟨w.heap.size, 0, none⟩) 1 1) 1 [.string x] :=
  ⟨rfl, .inr ⟨w.heap.size, 1, #[.string x], rfl, h, heap_alloc_new w _, Nat.le_refl _, by unfold maxLen; omega, rfl, rfl⟩⟩
theorem own_cells {w : World} {B g k cap : Nat} {xs : List ByteArray} (h : w.ownsRow B 9 1 (.slice (some ⟨g, 0, none⟩) k cap) k (xs.map Value.string)) : k ≤ cap ∧ xs.length = k ∧ B ≤ g ∧ g < w.heap.size ∧ ∀ (j : Nat) x, xs[j]? = some x → w.cell? ⟨g, 0 + j, none⟩ = some (.string x) := by
  obtain ⟨hl, ⟨hv, _⟩ | ⟨g2, cap2, cur, hv, hb, hh, hkc, _, hsz, htk⟩⟩ := h
  · cases hv
  · cases hv
    have hxl : xs.length = k := by simpa using hl
    refine ⟨hkc, hxl, hb, (Array.getElem?_eq_some_iff.1 hh).1, fun j x hx => ?_⟩
    have hj : j < xs.length := (List.getElem?_eq_some_iff.1 hx).1
    rw [Nat.zero_add, cell_of_row w g j _ _ _ hh]
    have h2 : (cur.toList.take (k * 1))[j]? = some (.string x) := by
      rw [htk, List.getElem?_map, hx]
      rfl
    rw [List.getElem?_take_of_lt (by omega)] at h2
    simpa using h2
theorem own_some {w : World} {B k : Nat} {ao : Option Addr} {cap : Nat} {l : List Value} (h : w.ownsRow B 9 1 (.slice ao k cap) k l) (hk : 0 < k) : ∃ g, ao = some ⟨g, 0, none⟩ ∧ B ≤ g := by
  obtain ⟨_, ⟨hv, h0⟩ | ⟨g2, cap2, cur, hv, hb, _⟩⟩ := h
  · omega
  · cases hv
    exact ⟨g2, rfl, hb⟩
/-- The lines so far, in a row of their own. -/
def OL (c : Cm) (G i gb cp : Nat) (W : World) : Prop := W.ownsRow (G + 1) 9 1 (.slice (some ⟨gb, 0, none⟩) (i + 1 : Nat) cp) (i + 1) ((lines c i).map Value.string)
theorem OL.keep {c : Cm} {G i gb cp : Nat} {W W' : World} (h : OL c G i gb cp W) (hg : W.grownBy W' none) : OL c G i gb cp W' := World.ownsRow.kept h hg (.inr (by simp [Value.ownBlock]))
theorem str_ones (xs : List ByteArray) : ∀ u ∈ xs.map Value.string, u.oneCell' = true := fun u hu => by
  obtain ⟨x, _, rfl⟩ := List.mem_map.1 hu
  rfl
theorem l2_new (w : World) (x y : ByteArray) : ∀ j u, [Value.string x, Value.string y][j]? = some u → (w.alloc (.cells #[.string x, .string y] 9)).cell? ((⟨w.heap.size, 0, none⟩ : Addr).add j) = some u := by
  intro j u hj
  match j, hj with
  | 0, hj => simp at hj; subst hj; simp [Addr.add]
  | 1, hj => simp at hj; subst hj; simp [Addr.add]
  | j + 2, hj => simp at hj
/-- While a commit's last lines are made: its box. -/
structure BC (G : Nat) (PA PC : List Value) (W : World) : Prop where
  au : W.rangeAt G 21 PA
  co : W.rangeAt G 25 PC
theorem BC.below {G : Nat} {PA PC : List Value} {W W' : World} (h : BC G PA PC W) (hG : G < W.heap.size) (hb : Below W.heap.size W W') : BC G PA PC W' :=
  ⟨fun j v hv => (hb.cell (p := ⟨G, 21 + j, none⟩) hG).trans (h.au j v hv), fun j v hv => (hb.cell (p := ⟨G, 25 + j, none⟩) hG).trans (h.co j v hv)⟩
theorem BC.grown {G r : Nat} {PA PC : List Value} {W W' : World} (h : BC G PA PC W) (hG : G < W.heap.size) (hg : W.grownBy W' (some r)) (hne : G ≠ r) : BC G PA PC W' :=
  ⟨fun j v hv => (World.cell?_of_block (a := ⟨G, 21 + j, none⟩) (hg.block G hG (by simp; exact hne))).trans (h.au j v hv), fun j v hv => (World.cell?_of_block (a := ⟨G, 25 + j, none⟩) (hg.block G hG (by simp; exact hne))).trans (h.co j v hv)⟩
theorem Bk.grown {H r : Nat} {TV : List Value} {ty : TypeId} {W W' : World} (h : Bk H TV ty W) (hg : W.grownBy W' (some r)) (hne : H ≠ r) : Bk H TV ty W' := ⟨(hg.block _ (lt_of_some h.box) (by simp; exact hne)).trans h.box⟩
set_option maxRecDepth 20000 in
set_option maxHeartbeats 4000000 in
theorem writeCommit_any (c : Cm) (hf : WfC c) (a : Option Addr) (cap : Nat) (h4 : c.msg.length ≤ 1000000) (w : World) (ht : Tab w) (hP : Pa w a cap c.ids) :
    Calls Tryz.prog 22 #[.agg (cmV c a cap).toArray] w (PostC c w) := by
  obtain ⟨i9, hi9, hz0, hz1, hz2⟩ := info_parts Tryz.info9
  obtain ⟨TV, HTV⟩ : ∃ l : List Value, Hid (cmV c a cap = l) := ⟨_, rfl⟩
  have HVL : Hid (TV.length = 30) := hid (by rw [← HTV.out]; exact cmV_len c a cap hf.1.1)
  obtain ⟨n, HN⟩ : ∃ n, Hid (c.ids.length = n) := ⟨_, rfl⟩
  obtain ⟨M, HMM⟩ : ∃ S : ByteArray, Hid (⟨c.msg.toArray⟩ = S) := ⟨_, rfl⟩
  obtain ⟨PA, HPA⟩ : ∃ l : List Value, Hid ((perV c.au).toList = l) := ⟨_, rfl⟩
  obtain ⟨PC, HPC⟩ : ∃ l : List Value, Hid ((perV c.co).toList = l) := ⟨_, rfl⟩
  have hiA : (Tryz.prog.info? 58).map (·.size) = some PA.length := by rw [← HPA.out]; exact Tryz.size58
  have hiC : (Tryz.prog.info? 58).map (·.size) = some PC.length := by rw [← HPC.out]; exact Tryz.size58
  have hi60 : (Tryz.prog.info? 60).map (·.size) = some TV.length := by rw [HVL.out]; exact Tryz.size60
  obtain ⟨RT, HRT⟩ : ∃ R : List Value, Hid (row .u8 c.tree = R) := ⟨_, rfl⟩
  have hi32t : (Tryz.prog.info? 32).map (·.size) = some RT.length := by rw [← HRT.out, row_len, hf.1.1]; exact Tryz.size32
  obtain ⟨zr, HZ⟩ : ∃ zr : Array Value, Hid (zr = (row .u8 z20).toArray) := ⟨_, rfl⟩
  have hz32 : ∀ w : World, (zeroValue 32).run Tryz.prog w = .ok (.agg zr) w := fun w => by rw [HZ.out]; exact zero32 w
  obtain ⟨G, HG⟩ : ∃ G, Hid (w.heap.size = G) := ⟨_, rfl⟩
  obtain ⟨w0, HW0⟩ : ∃ w0, Hid (w.alloc (.cells TV.toArray 60) = w0) := ⟨_, rfl⟩
  have HB0 : Hid (Below G w w0) := hid (by rw [← HW0.out, ← HG.out]; exact (Below.refl _ w).alloc (Nat.le_refl _) _)
  have BG0 : Hid (Bk G TV 60 w0) := ⟨by rw [← HW0.out, ← HG.out]; exact heap_alloc_new w _⟩
  have CL : Hid ((w.alloc (.cells TV.toArray 60)).rangeAt w.heap.size 0 TV) := hid (range_row (heap_alloc_new w _))
  have HC : Hid (∀ W, Bk G TV 60 W → BoxC G c a cap W) := fun W hW => hW.cells HTV.out hf.1.1
  have HTB : Hid (∀ W, Below G w W → Tab W) := fun W hW => ht.below (by rw [HG.out]; exact hW)
  have HPP : Hid (∀ W, Below G w W → Pa W a cap c.ids) := fun W hW => hP.below (by rw [HG.out]; exact hW)
  have HPL : Hid (0 < n → ∃ b off, a = some ⟨b, off, none⟩ ∧ b < G) := fun h0 => by
    obtain ⟨b, off, e1, e2, _⟩ := hP.at_ (by rw [HN.out]; exact h0)
    exact ⟨b, off, e1, by rw [← HG.out]; exact e2⟩
  have C53 : Hid (Calls Tryz.prog 53 #[.agg TV.toArray] w0 fun e w' => BIs (okC c) e ∧ Below w0.heap.size w0 w') := hid (by
    rw [← HTV.out]
    exact isCommit_any c hf a cap h4 w0 (HPP.out _ HB0.out))
  obtain ⟨HT, HHT⟩ : ∃ S : ByteArray, Hid (strOfNums (Hx.hexOf c.tree) = S) := ⟨_, rfl⟩
  have CHT : Hid (∀ W, Calls Tryz.prog 55 #[.agg RT.toArray] W fun e w' => e = .returned (.string HT) ∧ Below W.heap.size W w') := fun W => by
    rw [← HRT.out, ← HHT.out]; exact Hx.hex_prog c.tree W hf.1.1 hf.1.2
  obtain ⟨LT, HLT⟩ : ∃ S : ByteArray, Hid (lnS w_tree (hexB c.tree) = S) := ⟨_, rfl⟩
  have CLT : Hid (∀ W b, L2 b w_tree HT W → Calls Tryz.prog 54 #[.slice (some ⟨b, 0, none⟩) 2 2] W fun e w' => e = .returned (.string LT) ∧ Below W.heap.size W w') := fun W b h => by
    rw [← HLT.out]
    rw [← HHT.out] at h
    exact line2 _ _ b W h (by decide) (by show (hexB c.tree).length ≤ 10000; rw [hexB_len, hf.1.1]; omega)
  have HIDS : Hid (WfI c.ids) := hf.2
  have HWC : Hid (WfC c) := hf
  have BAD : Hid (¬ okC c → ∀ W, Below G w W → PostC c w (.returned (.tuple #[.slice none 0 0, .iface 35 (.int .i64 22)])) W) := fun h W hW => ⟨by rw [HG.out]; exact hW, .inr ⟨h, rfl⟩⟩
  rw [HTV.out]
  clear hP ht hf
  go_enter Tryz.func22, Tryz.ntmps22
  go_wp2_with (first | refine wpList_load_mid rfl 60 _ rfl w.heap.size 0 rfl TV _ CL.out Tryz.underlying60 rfl hi60 ?_ | fail)
  rw [HG.out, HW0.out]
  clear CL
  refine C53.out.mono ?_
  rintro ev w1 ⟨hb, hb1⟩
  have HB1 : Hid (Below G w w1) := HB0.out.trans (hb1.mono (Nat.le_of_lt BG0.out.lt))
  have BG1 : Hid (Bk G TV 60 w1) := BG0.out.below hb1
  clear hb1 C53
  rcases bis_or hb with ⟨hok, rfl⟩ | ⟨hno, rfl⟩
  rotate_left
  · have HNO : Hid (¬ okC c) := hno
    clear hno hb
    go_wp2
    go_ret2
    exact BAD.out HNO.out _ HB1.out
  have HOK : Hid (okC c) := hok
  have hn8 : n ≤ 8 := by rw [← HN.out]; exact hok.1
  clear hok hb BAD
  have R1 : Hid (w1.rangeAt G 0 RT) := hid (by rw [← HRT.out]; exact (HC.out _ BG1.out).id)
  go_wp2_with (first | refine wpList_load_mid rfl 32 _ rfl G 0 rfl RT _ R1.out Tryz.underlying32 rfl hi32t ?_ | fail)
  refine (CHT.out w1).mono ?_
  rintro ev w2 ⟨rfl, hb⟩
  have HB2 : Hid (Below G w w2) := HB1.out.trans (hb.mono (Nat.le_of_lt BG1.out.lt))
  have BG2 : Hid (Bk G TV 60 w2) := BG1.out.below hb
  clear hb
  obtain ⟨w3, HW3⟩ : ∃ w3, Hid (w2.alloc (.cells #[.string ⟨#[116, 114, 101, 101]⟩, .string HT] 9) = w3) := ⟨_, rfl⟩
  obtain ⟨b3, Hb3⟩ : ∃ b, Hid (w2.heap.size = b) := ⟨_, rfl⟩
  have hL3 : L2 b3 w_tree HT w3 := by rw [← HW3.out, ← Hb3.out]; exact l2_alloc _ _ _
  have hb3 : Below w2.heap.size w2 w3 := by rw [← HW3.out]; exact (Below.refl _ _).alloc (Nat.le_refl _) _
  have HB3 : Hid (Below G w w3) := HB2.out.trans (hb3.mono (Nat.le_of_lt BG2.out.lt))
  have BG3 : Hid (Bk G TV 60 w3) := BG2.out.below hb3
  have C54 : Hid (Calls Tryz.prog 54 #[.slice (some ⟨b3, 0, none⟩) 2 2] w3 fun e w' => e = .returned (.string LT) ∧ Below w3.heap.size w3 w') := CLT.out w3 b3 hL3
  clear hb3 hL3
  go_wp2_with fail
  rw [HW3.out, Hb3.out]
  refine C54.out.mono ?_
  rintro ev w4 ⟨rfl, hb⟩
  have HB4 : Hid (Below G w w4) := HB3.out.trans (hb.mono (Nat.le_of_lt BG3.out.lt))
  have BG4 : Hid (Bk G TV 60 w4) := BG3.out.below hb
  clear hb C54
  obtain ⟨w5, HW5⟩ : ∃ w5, Hid (w4.alloc (.cells #[.string LT] 9) = w5) := ⟨_, rfl⟩
  obtain ⟨b5, Hb5⟩ : ∃ b, Hid (w4.heap.size = b) := ⟨_, rfl⟩
  have hb5 : Below w4.heap.size w4 w5 := by rw [← HW5.out]; exact (Below.refl _ _).alloc (Nat.le_refl _) _
  have HB5 : Hid (Below G w w5) := HB4.out.trans (hb5.mono (Nat.le_of_lt BG4.out.lt))
  have BG5 : Hid (Bk G TV 60 w5) := BG4.out.below hb5
  have OW5 : Hid (w5.ownsRow (G + 1) 9 1 (.slice (some ⟨b5, 0, none⟩) 1 1) 1 [.string LT]) := hid (by rw [← HW5.out, ← Hb5.out]; exact own_one w4 (G + 1) LT BG4.out.lt)
  clear hb5
  have c20 : w5.cell? ⟨G, 20, none⟩ = some (.slice a n cap) := by rw [← HN.out]; exact (HC.out _ BG5.out).c20
  rw [← HW5.out] at c20
  go_wp2_with fail
  rw [HW5.out, Hb5.out]
  clear c20
  have OL5 : Hid (OL c G 0 b5 1 w5) := hid (by
    unfold OL
    have e : (lines c 0).map Value.string = [.string LT] := by simp [lines, HLT.out]
    rw [e]
    exact OW5.out)
  go_loopg [4, 20] n (fun g v iv wr => ∃ (i gb cp : Nat), i ≤ n ∧ g = n - i ∧ iv = .int .i64 i ∧ v = .slice (some ⟨gb, 0, none⟩) (i + 1 : Nat) cp ∧ Hid (OL c G i gb cp wr) ∧ Hid (Below G w wr) ∧ Hid (Bk G TV 60 wr))
  case atStart => exact ⟨0, b5, 1, Nat.zero_le _, rfl, rfl, rfl, OL5, HB5, BG5⟩
  case round =>
    obtain ⟨i, gb, cp, hi, hk, rfl, rfl, OW, HB, BG⟩ := hrel
    by_cases hlt : i < n
    · have hlti : (i : Int) < (n : Int) := by omega
      obtain ⟨b, off, hae, hbG⟩ := HPL.out (by omega)
      subst hae
      obtain ⟨b', off', e1, e2, e3⟩ := (HPP.out wr HB.out).at_ (by rw [HN.out]; omega)
      cases e1
      obtain ⟨x, HX⟩ : ∃ x, Hid (c.ids.getD i [] = x) := ⟨_, rfl⟩
      have hxm : x ∈ c.ids := by
        rw [← HX.out, List.getD_eq_getElem?_getD, List.getElem?_eq_getElem (by rw [HN.out]; exact hlt)]
        exact List.getElem_mem _
      obtain ⟨hx20, hxb⟩ := HIDS.out x hxm
      obtain ⟨RF, HRF⟩ : ∃ R : List Value, Hid (row .u8 x = R) := ⟨_, rfl⟩
      have RR : Hid (wr.rangeAt b (off + i * 20) RF) := hid (by rw [← HRF.out, ← HX.out]; exact e3 i (by rw [HN.out]; exact hlt))
      have HFN : Hid (RF.length = 20) := hid (by rw [← HRF.out, row_len]; exact hx20)
      have hi32 : (Tryz.prog.info? 32).map (·.size) = some RF.length := by rw [HFN.out]; exact Tryz.size32
      have I32 : Hid ((Tryz.prog.info? 32).map (·.size) = some RF.toArray.size) := hid (by rw [List.size_toArray]; exact hi32)
      have E32 : Hid (zr.size = RF.toArray.size) := hid (by rw [HZ.out, List.size_toArray, List.size_toArray, HFN.out]; rfl)
      have O32 : Hid (RF.toArray.all (·.oneCell') = true) := hid (by rw [← HRF.out]; exact all_oneCell_toArray (row_one _ _))
      have D0 : Hid ((wr.alloc (.cells zr 32)).heap[wr.heap.size]? = some (.cells zr 32 (0, 0))) := heap_alloc_new wr _
      obtain ⟨v2, HV2⟩ : ∃ w2, Hid ((wr.alloc (.cells zr 32)).setRow wr.heap.size RF.toArray = w2) := ⟨_, rfl⟩
      obtain ⟨H, HH⟩ : ∃ H, Hid (wr.heap.size = H) := ⟨_, rfl⟩
      have hb2 : Below wr.heap.size wr v2 := by rw [← HV2.out]; exact below_setRow ((Below.refl _ wr).alloc (Nat.le_refl _) _) (Nat.le_refl _) _
      have R2 : Hid (v2.rangeAt H 0 RF) := hid (by rw [← HV2.out, ← HH.out]; exact range_row (setRow_heap _ _ _ RF.toArray _ _ D0.out))
      obtain ⟨hxs, HHX⟩ : ∃ S : ByteArray, Hid (strOfNums (Hx.hexOf x) = S) := ⟨_, rfl⟩
      have CHX : Hid (∀ W, Calls Tryz.prog 55 #[.agg RF.toArray] W fun e w' => e = .returned (.string hxs) ∧ Below W.heap.size W w') := fun W => by
        rw [← HRF.out, ← HHX.out]; exact Hx.hex_prog x W hx20 hxb
      obtain ⟨LX, HLX⟩ : ∃ S : ByteArray, Hid (lnS w_parent (hexB x) = S) := ⟨_, rfl⟩
      have CLX : Hid (∀ W b, L2 b w_parent hxs W → Calls Tryz.prog 54 #[.slice (some ⟨b, 0, none⟩) 2 2] W fun e w' => e = .returned (.string LX) ∧ Below W.heap.size W w') := fun W b h => by
        rw [← HLX.out]
        rw [← HHX.out] at h
        exact line2 _ _ b W h (by decide) (by show (hexB x).length ≤ 10000; rw [hexB_len, hx20]; omega)
      have OWA : Hid (OL c G i gb cp v2) := OW.out.keep (grown_of_below hb2 _)
      have HBA : Hid (Below G w v2) := HB.out.trans (hb2.mono (Nat.le_of_lt BG.out.lt))
      have BGA : Hid (Bk G TV 60 v2) := BG.out.below hb2
      clear hb2 hxm hx20 hxb e3 e2
      go_wp2_with (first
        | refine wpList_load_mid rfl 32 _ rfl b (off + i * 20) rfl RF _ RR.out Tryz.underlying32 rfl hi32 ?_
        | (refine wpList_store_row rfl 32 _ _ rfl wr.heap.size RF.toArray rfl rfl 32 zr D0.out I32.out E32.out O32.out ?_; rw [HV2.out, HH.out])
        | refine wpList_load_mid rfl 32 _ rfl H 0 rfl RF _ R2.out Tryz.underlying32 rfl hi32 ?_
        | fail)
      refine (CHX.out v2).mono ?_
      rintro ev v3 ⟨rfl, hb⟩
      have OWB : Hid (OL c G i gb cp v3) := OWA.out.keep (grown_of_below hb _)
      have HBB : Hid (Below G w v3) := HBA.out.trans (hb.mono (Nat.le_of_lt BGA.out.lt))
      have BGB : Hid (Bk G TV 60 v3) := BGA.out.below hb
      clear hb
      obtain ⟨v4, HV4⟩ : ∃ w3, Hid (v3.alloc (.cells #[.string ⟨#[112, 97, 114, 101, 110, 116]⟩, .string hxs] 9) = w3) := ⟨_, rfl⟩
      obtain ⟨d4, Hd4⟩ : ∃ b, Hid (v3.heap.size = b) := ⟨_, rfl⟩
      have hL4 : L2 d4 w_parent hxs v4 := by rw [← HV4.out, ← Hd4.out]; exact l2_alloc _ _ _
      have hb4 : Below v3.heap.size v3 v4 := by rw [← HV4.out]; exact (Below.refl _ _).alloc (Nat.le_refl _) _
      have OWC : Hid (OL c G i gb cp v4) := OWB.out.keep (grown_of_below hb4 _)
      have HBC : Hid (Below G w v4) := HBB.out.trans (hb4.mono (Nat.le_of_lt BGB.out.lt))
      have BGC : Hid (Bk G TV 60 v4) := BGB.out.below hb4
      have C54 : Hid (Calls Tryz.prog 54 #[.slice (some ⟨d4, 0, none⟩) 2 2] v4 fun e w' => e = .returned (.string LX) ∧ Below v4.heap.size v4 w') := CLX.out v4 d4 hL4
      clear hb4 hL4
      go_wp2_with fail
      rw [HV4.out, Hd4.out]
      refine C54.out.mono ?_
      rintro ev v5 ⟨rfl, hb⟩
      have OWD : Hid (OL c G i gb cp v5) := OWC.out.keep (grown_of_below hb _)
      have HBD : Hid (Below G w v5) := HBC.out.trans (hb.mono (Nat.le_of_lt BGC.out.lt))
      have BGD : Hid (Bk G TV 60 v5) := BGC.out.below hb
      clear hb C54
      have HOE : Hid (OL c G i gb cp (v5.alloc (.cells #[.string LX] 9))) := OWD.out.keep (World.grownBy_alloc v5 _ none)
      have HBE : Hid (Below G w (v5.alloc (.cells #[.string LX] 9))) := HBD.out.alloc (Nat.le_of_lt BGD.out.lt) _
      have BGE : Hid (Bk G TV 60 (v5.alloc (.cells #[.string LX] 9))) := BGD.out.below ((Below.refl _ v5).alloc (Nat.le_refl _) _)
      go_wp2_with (at_builtin; refine wpList_append_at _ rfl _ _ 112 rfl (G + 1) 9 i9 (.string ⟨#[]⟩) 1 16 Tryz.underlying112 hi9 hz0 hz1 hz2 rfl (by decide) (.slice (some ⟨gb, 0, none⟩) (i + 1 : Nat) cp) (i + 1) ((lines c i).map Value.string) (by first | rfl | simp) HOE.out ⟨v5.heap.size, 0, none⟩ 1 1 [.string LX] (by first | rfl | simp) rfl (cell_one_new _ _ _) (str_ones [LX]) (by unfold maxLen; omega) (by omega) (Nat.le_of_lt (Nat.lt_of_le_of_lt (Nat.succ_le_of_lt BGD.out.lt) (by simp))) _ rfl ?_; intro ao cap2 v6 hown hg hloc; have OWF : Hid (v6.ownsRow (G + 1) 9 1 (.slice ao (i + 1 + 1 : Nat) cap2) (i + 1 + 1) ((lines c i).map Value.string ++ [.string LX])) := hown; have GW : Hid ((v5.alloc (.cells #[.string LX] 9)).grownBy v6 (some gb)) := hg; clear hown hg hloc)
      obtain ⟨g6, rfl, hg6⟩ := own_some OWF.out (by omega)
      have hgb := (own_cells HOE.out).2.2.1
      go_roundg (n - (i + 1))
      case measure => omega
      case rel =>
        refine ⟨i + 1, g6, cap2, by omega, rfl, by go_num, rfl, hid ?_, hid ?_, hid ?_⟩
        · unfold OL
          rw [lines_snoc c i (by rw [HN.out]; exact hlt), HX.out, HLX.out, List.map_append]
          exact OWF.out
        · exact HBE.out.grown GW.out (Nat.le_of_lt BGE.out.lt) (fun q hq => by cases hq; omega)
        · exact BGE.out.grown (r := gb) GW.out (by omega)
    · have hlti : ¬ (i : Int) < (n : Int) := by omega
      obtain rfl : i = n := by omega
      have BCd : Hid (BC G PA PC wr.drew) := hid (by
        have h := HC.out _ BG.out
        refine ⟨?_, ?_⟩
        · rw [← HPA.out]; exact h.au
        · rw [← HPC.out]; exact h.co)
      have OWd : Hid (OL c G i gb cp wr.drew) := OW
      have HBd : Hid (Below G w wr.drew) := hid ⟨HB.out.os, HB.out.tape, HB.out.output, HB.out.size, HB.out.block⟩
      have BGd : Hid (Bk G TV 60 wr.drew) := ⟨BG.out.box⟩
      obtain ⟨PT, HPT⟩ : ∃ S : ByteArray, Hid (⟨(perB c.au).toArray⟩ = S) := ⟨_, rfl⟩
      obtain ⟨QT, HQT⟩ : ∃ S : ByteArray, Hid (⟨(perB c.co).toArray⟩ = S) := ⟨_, rfl⟩
      obtain ⟨LA, HLA⟩ : ∃ S : ByteArray, Hid (lnS w_author (perB c.au) = S) := ⟨_, rfl⟩
      obtain ⟨LC, HLC⟩ : ∃ S : ByteArray, Hid (lnS w_committer (perB c.co) = S) := ⟨_, rfl⟩
      have C1 : Hid (∀ W, Below G w W → Calls Tryz.prog 56 #[.agg PA.toArray] W fun e w' => e = .returned (.string PT) ∧ Below W.heap.size W w') := fun W hW => by
        rw [← HPA.out, ← HPT.out]; exact personText_any c.au HOK.out.2.2.1 W (HTB.out W hW)
      have C2 : Hid (∀ W, Below G w W → Calls Tryz.prog 56 #[.agg PC.toArray] W fun e w' => e = .returned (.string QT) ∧ Below W.heap.size W w') := fun W hW => by
        rw [← HPC.out, ← HQT.out]; exact personText_any c.co HOK.out.2.2.2.1 W (HTB.out W hW)
      have C3 : Hid (∀ W b, L2 b w_author PT W → Calls Tryz.prog 54 #[.slice (some ⟨b, 0, none⟩) 2 2] W fun e w' => e = .returned (.string LA) ∧ Below W.heap.size W w') := fun W b h => by
        rw [← HLA.out]
        rw [← HPT.out] at h
        exact line2 _ _ b W h (by decide) (Nat.le_trans (perB_len c.au HOK.out.2.2.1) (by omega))
      have C4 : Hid (∀ W b, L2 b w_committer QT W → Calls Tryz.prog 54 #[.slice (some ⟨b, 0, none⟩) 2 2] W fun e w' => e = .returned (.string LC) ∧ Below W.heap.size W w') := fun W b h => by
        rw [← HLC.out]
        rw [← HQT.out] at h
        exact line2 _ _ b W h (by decide) (Nat.le_trans (perB_len c.co HOK.out.2.2.2.1) (by omega))
      go_wp2_with fail
      refine wp_region_held_drew (S := BC G PA PC) (by kernel_rfl) (by exact BCd.out) (fun hHeld => ?_)
      generalize wr.drew = u0 at hHeld BCd OWd HBd BGd ⊢
      clear BCd OW HB BG
      refine takeL (i := 0) (v := ?_) rfl (by kernel_rfl) (by kernel_rfl) (by kernel_rfl) (fun _ _ _ h => h) (Or.inl ⟨by rfl, ?_⟩) hHeld ?_
      rotate_left
      · rintro w' ⟨au, co⟩; go_simp; rfl
      try simp only [Act.put, List.setIfInBounds_toArray, List.set_cons_zero, List.set_cons_succ]
      refine takeL (i := 1) (v := ?_) rfl (by kernel_rfl) (by kernel_rfl) (by kernel_rfl) (fun _ _ _ h => h) (Or.inl ⟨by rfl, ?_⟩) hHeld ?_
      rotate_left
      · rintro w' ⟨au, co⟩; go_simp; rfl
      try simp only [Act.put, List.setIfInBounds_toArray, List.set_cons_zero, List.set_cons_succ]
      refine takeL (i := 2) (v := .agg PA.toArray) rfl (by kernel_rfl) (by kernel_rfl) (by kernel_rfl) (fun _ _ _ h => h) (yieldsIf_load_mid (by rfl) 58 _ rfl G 21 (by rfl) PA _ (fun w' h => h.au) Tryz.underlying58 rfl hiA) hHeld ?_
      try simp only [Act.put, List.setIfInBounds_toArray, List.set_cons_zero, List.set_cons_succ]
      refine takeL (i := 6) (v := ?_) rfl (by kernel_rfl) (by kernel_rfl) (by kernel_rfl) (fun _ _ _ h => h) (Or.inl ⟨by rfl, ?_⟩) hHeld ?_
      rotate_left
      · rintro w' ⟨au, co⟩; go_simp; rfl
      try simp only [Act.put, List.setIfInBounds_toArray, List.set_cons_zero, List.set_cons_succ]
      refine takeL (i := 7) (v := .agg PC.toArray) rfl (by kernel_rfl) (by kernel_rfl) (by kernel_rfl) (fun _ _ _ h => h) (yieldsIf_load_mid (by rfl) 58 _ rfl G 25 (by rfl) PC _ (fun w' h => h.co) Tryz.underlying58 rfl hiC) hHeld ?_
      try simp only [Act.put, List.setIfInBounds_toArray, List.set_cons_zero, List.set_cons_succ]
      refine wpAnyH_ready (rs := [3]) (by kernel_rfl) (by simp) ?_
      refine consL rfl (fun KK hKK => ?_) AllReadyH.nil
      refine step_callv (by rfl) 56 [.tmp 34] _ [.agg PA.toArray] _ (by rfl) (by rfl) (enter56 _) (C1.out _ HBd.out) ?_
      rintro e u1 ⟨rfl, hb⟩
      refine ⟨_, rfl, ?_⟩
      have OW1 : Hid (OL c G i gb cp u1) := OWd.out.keep (grown_of_below hb _)
      have HB1 : Hid (Below G w u1) := HBd.out.trans (hb.mono (Nat.le_of_lt BGd.out.lt))
      have BG1 : Hid (Bk G TV 60 u1) := BGd.out.below hb
      refine hKK.out _ _ (hHeld.below BGd.out.lt hb) (fun hHeld => ?_)
      clear hKK KK hb
      try simp only [Act.put, List.setIfInBounds_toArray, List.set_cons_zero, List.set_cons_succ]
      refine wpAnyH_ready (rs := [4]) (by kernel_rfl) (by simp) ?_
      refine consL rfl (fun KK hKK => ?_) AllReadyH.nil
      obtain ⟨u2, HW2⟩ : ∃ W', Hid (u1.alloc (.cells #[.string w_author, .string PT] 9) = W') := ⟨_, rfl⟩
      obtain ⟨b2, Hb2⟩ : ∃ b', Hid (u1.heap.size = b') := ⟨_, rfl⟩
      have hL2 : L2 b2 w_author PT u2 := by rw [← HW2.out, ← Hb2.out]; exact l2_alloc _ _ _
      have hb : Below u1.heap.size u1 u2 := by rw [← HW2.out]; exact (Below.refl _ _).alloc (Nat.le_refl _) _
      refine step_exec (by rfl) (.slice (some ⟨b2, 0, none⟩) 2 2) (w' := u2) (by rw [← HW2.out, ← Hb2.out]; unfold w_author; go_simp) ?_
      have OW2 : Hid (OL c G i gb cp u2) := OW1.out.keep (grown_of_below hb _)
      have HB2 : Hid (Below G w u2) := HB1.out.trans (hb.mono (Nat.le_of_lt BG1.out.lt))
      have BG2 : Hid (Bk G TV 60 u2) := BG1.out.below hb
      refine hKK.out _ _ (hHeld.below BG1.out.lt hb) (fun hHeld => ?_)
      clear hKK KK hb
      try simp only [Act.put, List.setIfInBounds_toArray, List.set_cons_zero, List.set_cons_succ]
      refine wpAnyH_ready (rs := [5]) (by kernel_rfl) (by simp) ?_
      refine consL rfl (fun KK hKK => ?_) AllReadyH.nil
      refine step_callv (by rfl) 54 [.tmp 36] _ [.slice (some ⟨b2, 0, none⟩) 2 2] _ (by rfl) (by rfl) (enter54 _) (C3.out _ _ hL2) ?_
      rintro e u3 ⟨rfl, hb⟩
      refine ⟨_, rfl, ?_⟩
      have OW3 : Hid (OL c G i gb cp u3) := OW2.out.keep (grown_of_below hb _)
      have HB3 : Hid (Below G w u3) := HB2.out.trans (hb.mono (Nat.le_of_lt BG2.out.lt))
      have BG3 : Hid (Bk G TV 60 u3) := BG2.out.below hb
      refine hKK.out _ _ (hHeld.below BG2.out.lt hb) (fun hHeld => ?_)
      clear hKK KK hb
      try simp only [Act.put, List.setIfInBounds_toArray, List.set_cons_zero, List.set_cons_succ]
      refine wpAnyH_ready (rs := [8]) (by kernel_rfl) (by simp) ?_
      refine consL rfl (fun KK hKK => ?_) AllReadyH.nil
      refine step_callv (by rfl) 56 [.tmp 39] _ [.agg PC.toArray] _ (by rfl) (by rfl) (enter56 _) (C2.out _ HB3.out) ?_
      rintro e u4 ⟨rfl, hb⟩
      refine ⟨_, rfl, ?_⟩
      have OW4 : Hid (OL c G i gb cp u4) := OW3.out.keep (grown_of_below hb _)
      have HB4 : Hid (Below G w u4) := HB3.out.trans (hb.mono (Nat.le_of_lt BG3.out.lt))
      have BG4 : Hid (Bk G TV 60 u4) := BG3.out.below hb
      refine hKK.out _ _ (hHeld.below BG3.out.lt hb) (fun hHeld => ?_)
      clear hKK KK hb
      try simp only [Act.put, List.setIfInBounds_toArray, List.set_cons_zero, List.set_cons_succ]
      refine wpAnyH_ready (rs := [9]) (by kernel_rfl) (by simp) ?_
      refine consL rfl (fun KK hKK => ?_) AllReadyH.nil
      obtain ⟨u5, HW5⟩ : ∃ W', Hid (u4.alloc (.cells #[.string w_committer, .string QT] 9) = W') := ⟨_, rfl⟩
      obtain ⟨b5, Hb5⟩ : ∃ b', Hid (u4.heap.size = b') := ⟨_, rfl⟩
      have hL5 : L2 b5 w_committer QT u5 := by rw [← HW5.out, ← Hb5.out]; exact l2_alloc _ _ _
      have hb : Below u4.heap.size u4 u5 := by rw [← HW5.out]; exact (Below.refl _ _).alloc (Nat.le_refl _) _
      refine step_exec (by rfl) (.slice (some ⟨b5, 0, none⟩) 2 2) (w' := u5) (by rw [← HW5.out, ← Hb5.out]; unfold w_committer; go_simp) ?_
      have OW5 : Hid (OL c G i gb cp u5) := OW4.out.keep (grown_of_below hb _)
      have HB5 : Hid (Below G w u5) := HB4.out.trans (hb.mono (Nat.le_of_lt BG4.out.lt))
      have BG5 : Hid (Bk G TV 60 u5) := BG4.out.below hb
      refine hKK.out _ _ (hHeld.below BG4.out.lt hb) (fun hHeld => ?_)
      clear hKK KK hb
      try simp only [Act.put, List.setIfInBounds_toArray, List.set_cons_zero, List.set_cons_succ]
      refine wpAnyH_ready (rs := [10]) (by kernel_rfl) (by simp) ?_
      refine consL rfl (fun KK hKK => ?_) AllReadyH.nil
      refine step_callv (by rfl) 54 [.tmp 41] _ [.slice (some ⟨b5, 0, none⟩) 2 2] _ (by rfl) (by rfl) (enter54 _) (C4.out _ _ hL5) ?_
      rintro e u6 ⟨rfl, hb⟩
      refine ⟨_, rfl, ?_⟩
      have OW6 : Hid (OL c G i gb cp u6) := OW5.out.keep (grown_of_below hb _)
      have HB6 : Hid (Below G w u6) := HB5.out.trans (hb.mono (Nat.le_of_lt BG5.out.lt))
      have BG6 : Hid (Bk G TV 60 u6) := BG5.out.below hb
      refine hKK.out _ _ (hHeld.below BG5.out.lt hb) (fun hHeld => ?_)
      clear hKK KK hb
      try simp only [Act.put, List.setIfInBounds_toArray, List.set_cons_zero, List.set_cons_succ]
      refine wpAnyH_ready (rs := [11]) (by kernel_rfl) (by simp) ?_
      refine consL rfl (fun KK hKK => ?_) AllReadyH.nil
      obtain ⟨u7, HW7⟩ : ∃ W', Hid (u6.alloc (.cells #[.string LA, .string LC] 9) = W') := ⟨_, rfl⟩
      obtain ⟨b7, Hb7⟩ : ∃ b', Hid (u6.heap.size = b') := ⟨_, rfl⟩
      have HN7 : Hid (∀ j u, [Value.string LA, Value.string LC][j]? = some u → u7.cell? ((⟨b7, 0, none⟩ : Addr).add j) = some u) := hid (by rw [← HW7.out, ← Hb7.out]; exact l2_new _ _ _)
      have hb : Below u6.heap.size u6 u7 := by rw [← HW7.out]; exact (Below.refl _ _).alloc (Nat.le_refl _) _
      refine step_exec (by rfl) (.slice (some ⟨b7, 0, none⟩) 2 2) (w' := u7) (by rw [← HW7.out, ← Hb7.out]; go_simp) ?_
      have OW7 : Hid (OL c G i gb cp u7) := OW6.out.keep (grown_of_below hb _)
      have HB7 : Hid (Below G w u7) := HB6.out.trans (hb.mono (Nat.le_of_lt BG6.out.lt))
      have BG7 : Hid (Bk G TV 60 u7) := BG6.out.below hb
      refine hKK.out _ _ (hHeld.below BG6.out.lt hb) (fun hHeld => ?_)
      clear hKK KK hb
      try simp only [Act.put, List.setIfInBounds_toArray, List.set_cons_zero, List.set_cons_succ]
      refine wpAnyH_ready (rs := [12]) (by kernel_rfl) (by simp) ?_
      refine consL rfl (fun KK hKK => ?_) AllReadyH.nil
      refine step_append_at u7 (by rfl) _ _ 112 rfl (G + 1) 9 i9 (.string ⟨#[]⟩) 1 16 Tryz.underlying112 hi9 hz0 hz1 hz2 rfl (by decide) (.slice (some ⟨gb, 0, none⟩) (i + 1 : Nat) cp) (i + 1) ((lines c i).map Value.string) (by first | rfl | simp) OW7.out ⟨b7, 0, none⟩ 2 2 [.string LA, .string LC] (by first | rfl | simp) rfl HN7.out (str_ones [LA, LC]) (by unfold maxLen; omega) (by omega) (Nat.succ_le_of_lt BG7.out.lt) _ rfl ?_
      intro ao cap2 u8 hown hg hloc
      have OWF : Hid (u8.ownsRow (G + 1) 9 1 (.slice ao (i + 1 + 2 : Nat) cap2) (i + 1 + 2) ((lines c i ++ [LA, LC]).map Value.string)) := hid (by rw [List.map_append]; exact hown)
      have GW : Hid (u7.grownBy u8 (some gb)) := hg
      clear hown hg hloc
      have hgb := (own_cells OW7.out).2.2.1
      have HB8 : Hid (Below G w u8) := HB7.out.grown GW.out (Nat.le_of_lt BG7.out.lt) (fun q hq => by cases hq; omega)
      have BG8 : Hid (Bk G TV 60 u8) := BG7.out.grown (r := gb) GW.out (by omega)
      refine hKK.out _ _ (hHeld.grown (r := gb) BG7.out.lt GW.out (by omega)) (fun hHeld => ?_)
      clear hKK KK
      try simp only [Act.put, List.setIfInBounds_toArray, List.set_cons_zero, List.set_cons_succ]
      refine takeL (i := 13) (v := ?_) rfl (by kernel_rfl) (by kernel_rfl) (by kernel_rfl) (fun _ _ _ h => h) (Or.inl ⟨by rfl, ?_⟩) hHeld ?_
      rotate_left
      · rintro w' ⟨au, co⟩; go_simp; rfl
      try simp only [Act.put, List.setIfInBounds_toArray, List.set_cons_zero, List.set_cons_succ]
      refine wpAnyH_done (by kernel_rfl) ?_ _
      obtain ⟨g8, rfl, hg8⟩ := own_some OWF.out (by omega)
      obtain ⟨q1, q2, q3, q4, q5⟩ := own_cells OWF.out
      have CF : Hid (Calls Tryz.prog 57 #[.string M, .slice (some ⟨g8, 0, none⟩) (i + 1 + 2 : Nat) cap2] u8 (PostL (cmB c) u8)) := hid (by
        have hml : c.msg.length ≤ 100000 := by
          have := HOK.out.2.2.2.2
          unfold isMsg at this
          rw [Bool.and_eq_true] at this
          have := of_decide_eq_true this.1
          omega
        have := letter_any c.msg hml g8 0 cap2 (lines c i ++ [LA, LC]) u8 q5 q4 (by rw [q2]; omega) (by rw [q2]; exact q1) (by
          have h := lines_short c HWC.out HOK.out
          rw [HN.out, HLA.out, HLC.out] at h
          exact h)
        rw [q2] at this
        have e := lines_all c
        rw [HN.out, HLA.out, HLC.out] at e
        rw [e, HMM.out] at this
        exact this)
      have c29 : u8.cell? ⟨G, 29, none⟩ = some (.string M) := by rw [← HMM.out]; exact (HC.out _ BG8.out).c29
      clear q5 hHeld
      go_wp2_with fail
      refine CF.out.mono ?_
      rintro ev u9 ⟨hb, g9, cp9, rfl, hge, hmk⟩
      have PE : Hid (PostC c w (.returned (.tuple #[.slice (some ⟨g9, 0, none⟩) (cmB c).length cp9, .nilIface])) u9) := hid (by
        have hB9 : Below w.heap.size w u9 := by rw [HG.out]; exact HB8.out.trans (hb.mono (Nat.le_of_lt BG8.out.lt))
        refine ⟨hB9, .inl ⟨HOK.out, g9, cp9, rfl, ?_, hmk⟩⟩
        have := BG8.out.lt
        rw [HG.out]
        omega)
      clear hb hge hmk
      obtain ⟨L, HL⟩ : ∃ L, Hid ((cmB c).length = L) := ⟨_, rfl⟩
      rw [HL.out] at PE ⊢
      go_wp2
      go_ret2
      exact PE.out
end Go.Proofs.YtenbdeljblmbhaaGreatDoor
