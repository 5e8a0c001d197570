import Derived.Test.YtbpdielmdhhdfaaGreatDoorMk06
import Derived.Test.YtbpdielmdhhdfaaGreatDoorMk01
import Derived.Test.YtbpdielmdhhdfaaGreatDoorMk05
import Derived.Maps.AppendAt
namespace Go.Proofs.YtbpdielmdhhdfaaGreatDoor
open Go.RowKit
set_option linter.unusedVariables false
set_option linter.unusedSimpArgs false
structure Cm where
  tree : List Int
  ids : List (List Int)
  au : Per
  co : Per
  msg : List UInt8
def cmT (c : Cm) (a : Option Addr) (cap : Nat) : List Value := [.slice a c.ids.length cap, .string ⟨c.au.name.toArray⟩, .string ⟨c.au.mail.toArray⟩, .int .i64 c.au.time, .int .i64 c.au.zone, .string ⟨c.co.name.toArray⟩, .string ⟨c.co.mail.toArray⟩, .int .i64 c.co.time, .int .i64 c.co.zone, .string ⟨c.msg.toArray⟩]
def cmV (c : Cm) (a : Option Addr) (cap : Nat) : List Value := row .u8 c.tree ++ cmT c a cap
def WfC (c : Cm) : Prop := (c.tree.length = 20 ∧ ∀ n ∈ c.tree, 0 ≤ n ∧ n < 256) ∧ WfI c.ids
def okC (c : Cm) : Prop := c.ids.length ≤ 8 ∧ c.ids.Nodup ∧ okP c.au ∧ okP c.co ∧ isMsg c.msg = true
theorem cmV_len (c : Cm) (a : Option Addr) (cap : Nat) (h : c.tree.length = 20) : (cmV c a cap).length = 30 := by simp [cmV, cmT, row_len, h]
theorem cmV_at (c : Cm) (a : Option Addr) (cap : Nat) (h : c.tree.length = 20) (i : Nat) : (cmV c a cap)[20 + i]? = (cmT c a cap)[i]? := by
  have hl : (row .u8 c.tree).length = 20 := by rw [row_len]; exact h
  unfold cmV
  rw [List.getElem?_append_right (by omega), hl, Nat.add_sub_cancel_left]
theorem cmV_one (c : Cm) (a : Option Addr) (cap : Nat) : ∀ v ∈ cmV c a cap, v.oneCell' = true := by
  intro v hv
  unfold cmV at hv
  rcases List.mem_append.1 hv with hv | hv
  · exact row_one _ _ v hv
  · simp only [cmT, List.mem_cons, List.not_mem_nil, or_false] at hv
    rcases hv with rfl | rfl | rfl | rfl | rfl | rfl | rfl | rfl | rfl | rfl <;> rfl
theorem get_ofV {l : List Value} {i : Nat} {v : Value} (h : l[i]? = some v) (hi : i < l.length) : l[i]'hi = v := by
  rw [List.getElem?_eq_getElem hi] at h
  exact Option.some.inj h
structure Bk (H : Nat) (TV : List Value) (ty : TypeId) (W : World) : Prop where
  box : W.heap[H]? = some (.cells TV.toArray ty (0, 0))
theorem Bk.below {H : Nat} {TV : List Value} {ty : TypeId} {W W' : World} (h : Bk H TV ty W) (hb : Below W.heap.size W W') : Bk H TV ty W' := ⟨(hb.block _ (lt_of_some h.box)).trans h.box⟩
theorem Bk.lt {H : Nat} {TV : List Value} {ty : TypeId} {W : World} (h : Bk H TV ty W) : H < W.heap.size := lt_of_some h.box
theorem Bk.range {H : Nat} {TV : List Value} {ty : TypeId} {W : World} (h : Bk H TV ty W) : W.rangeAt H 0 TV := range_row h.box
structure BoxC (H : Nat) (c : Cm) (a : Option Addr) (cap : Nat) (W : World) : Prop where
  id : W.rangeAt H 0 (row .u8 c.tree)
  c20 : W.cell? ⟨H, 20, none⟩ = some (.slice a c.ids.length cap)
  au : W.rangeAt H 21 (perV c.au).toList
  co : W.rangeAt H 25 (perV c.co).toList
  c29 : W.cell? ⟨H, 29, none⟩ = some (.string ⟨c.msg.toArray⟩)
theorem Bk.cells {H : Nat} {ty : TypeId} {W : World} {c : Cm} {a : Option Addr} {cap : Nat} {TV : List Value} (h : Bk H TV ty W) (hv : cmV c a cap = TV) (hl : c.tree.length = 20) : BoxC H c a cap W := by
  subst hv
  have hr := range_row h.box
  have hlr : (row .u8 c.tree).length = 20 := by rw [row_len]; exact hl
  have g2 : ∀ (i : Nat) (v : Value), (cmT c a cap)[i]? = some v → W.cell? ⟨H, 20 + i, none⟩ = some v := fun i v hv => by
    have := hr (20 + i) v ((cmV_at c a cap hl i).trans hv)
    rwa [Nat.zero_add] at this
  refine ⟨fun j v hv => ?_, g2 0 _ rfl, ?_, ?_, g2 9 _ rfl⟩
  · refine hr j v ?_
    unfold cmV
    rw [List.getElem?_append_left (by obtain ⟨h1, _⟩ := List.getElem?_eq_some_iff.1 hv; exact h1)]
    exact hv
  · intro j v hv
    match j, hv with
    | 0, hv => exact (g2 1 _ rfl).trans hv
    | 1, hv => exact (g2 2 _ rfl).trans hv
    | 2, hv => exact (g2 3 _ rfl).trans hv
    | 3, hv => exact (g2 4 _ rfl).trans hv
    | j + 4, hv => simp [perV] at hv
  · intro j v hv
    match j, hv with
    | 0, hv => exact (g2 5 _ rfl).trans hv
    | 1, hv => exact (g2 6 _ rfl).trans hv
    | 2, hv => exact (g2 7 _ rfl).trans hv
    | 3, hv => exact (g2 8 _ rfl).trans hv
    | j + 4, hv => simp [perV] at hv
set_option maxRecDepth 20000 in
set_option maxHeartbeats 1000000 in
theorem isCommit_any (c : Cm) (hf : WfC c) (a : Option Addr) (cap : Nat) (h4 : c.msg.length ≤ 1000000) (w : World) (hP : Pa w a cap c.ids) :
    Calls Tryz.prog 53 #[.agg (cmV c a cap).toArray] w fun e w' => BIs (okC c) e ∧ Below w.heap.size w w' := by
  obtain ⟨TV, HTV⟩ : ∃ l : List Value, Hid (cmV c a cap = l) := ⟨_, rfl⟩
  have hvl : TV.length = 30 := by rw [← HTV.out]; exact cmV_len c a cap hf.1.1
  obtain ⟨n, HN⟩ : ∃ n, Hid (c.ids.length = n) := ⟨_, rfl⟩
  obtain ⟨M, HMM⟩ : ∃ S : ByteArray, Hid (⟨c.msg.toArray⟩ = S) := ⟨_, rfl⟩
  obtain ⟨ms, HMSB⟩ : ∃ b : Bool, Hid (isMsg c.msg = b) := ⟨_, rfl⟩
  obtain ⟨PA, HPA⟩ : ∃ l : List Value, Hid ((perV c.au).toList = l) := ⟨_, rfl⟩
  obtain ⟨PC, HPC⟩ : ∃ l : List Value, Hid ((perV c.co).toList = l) := ⟨_, rfl⟩
  have hiA : (Tryz.prog.info? 58).map (·.size) = some PA.length := by rw [← HPA.out]; exact Tryz.size58
  have hiC : (Tryz.prog.info? 58).map (·.size) = some PC.length := by rw [← HPC.out]; exact Tryz.size58
  have hA20 : TV[20]'(by omega) = .slice a n cap := get_ofV (by rw [← HTV.out, ← HN.out]; exact cmV_at c a cap hf.1.1 0) _
  obtain ⟨G, HG⟩ : ∃ G, Hid (w.heap.size = G) := ⟨_, rfl⟩
  obtain ⟨w0, HW0⟩ : ∃ w0, Hid (w.alloc (.cells TV.toArray 60) = w0) := ⟨_, rfl⟩
  have HB0 : Hid (Below G w w0) := hid (by rw [← HW0.out, ← HG.out]; exact (Below.refl _ w).alloc (Nat.le_refl _) _)
  have BG0 : Hid (Bk G TV 60 w0) := ⟨by rw [← HW0.out, ← HG.out]; exact heap_alloc_new w _⟩
  have HC : Hid (∀ W, Bk G TV 60 W → BoxC G c a cap W) := fun W hW => hW.cells HTV.out hf.1.1
  have HPE : Hid (∀ w, Calls Tryz.prog 100 #[.agg PA.toArray] w fun e w' => BIs (okP c.au) e ∧ Below w.heap.size w w') := fun w => by rw [← HPA.out]; exact isPerson_any c.au w
  have HPF : Hid (∀ w, Calls Tryz.prog 100 #[.agg PC.toArray] w fun e w' => BIs (okP c.co) e ∧ Below w.heap.size w w') := fun w => by rw [← HPC.out]; exact isPerson_any c.co w
  have HMS : Hid (∀ w, Calls Tryz.prog 101 #[.string M] w fun e w' => e = .returned (.bool ms) ∧ w' = w) := fun w => by rw [← HMM.out, ← HMSB.out]; exact isMessage_any c.msg w h4
  have HDF : Hid (n ≤ 8 → ∀ W, Below G w W → Calls Tryz.prog 99 #[.slice a n cap] W fun e w' => BIs c.ids.Nodup e ∧ Below W.heap.size W w') := fun hn W hW => by
    have := differ_any a cap c.ids hf.2 (by rw [HN.out]; omega) W (hP.below (by rw [HG.out]; exact hW))
    rw [HN.out] at this
    exact this
  rw [HTV.out]
  clear hP
  by_cases hn8 : n ≤ 8
  · have hn8i : (n : Int) ≤ 8 := by omega
    go_enter Tryz.func53, Tryz.ntmps53
    go_wp2_with fail
    rw [HG.out, HW0.out]
    clear hA20 hvl
    refine (HDF.out hn8 w0 HB0.out).mono ?_
    rintro ev w1 ⟨hb, hb1⟩
    have HB1 : Hid (Below G w w1) := HB0.out.trans (hb1.mono (Nat.le_of_lt BG0.out.lt))
    have BG1 : Hid (Bk G TV 60 w1) := BG0.out.below hb1
    clear hb1
    rcases bis_or hb with ⟨hy1, rfl⟩ | ⟨hn1, rfl⟩
    · have HY1 : Hid c.ids.Nodup := hy1
      clear hy1 hb
      have R1 : Hid (w1.rangeAt G 21 PA) := hid (by rw [← HPA.out]; exact (HC.out _ BG1.out).au)
      go_wp2_with (first | (refine BigFrame.wpList_want (by rfl) (fun K hK => ?_); refine wp_load_mid 58 _ rfl G 21 rfl PA _ R1.out Tryz.underlying58 rfl hiA ?_; refine hK _ _ ?_; clear hK K) | fail)
      refine (HPE.out w1).mono ?_
      rintro ev w2 ⟨hb, hb2⟩
      have HB2 : Hid (Below G w w2) := HB1.out.trans (hb2.mono (Nat.le_of_lt BG1.out.lt))
      have BG2 : Hid (Bk G TV 60 w2) := BG1.out.below hb2
      clear hb2
      rcases bis_or hb with ⟨hy2, rfl⟩ | ⟨hn2, rfl⟩
      · have HY2 : Hid (okP c.au) := hy2
        clear hy2 hb
        have R2 : Hid (w2.rangeAt G 25 PC) := hid (by rw [← HPC.out]; exact (HC.out _ BG2.out).co)
        go_wp2_with (first | (refine BigFrame.wpList_want (by rfl) (fun K hK => ?_); refine wp_load_mid 58 _ rfl G 25 rfl PC _ R2.out Tryz.underlying58 rfl hiC ?_; refine hK _ _ ?_; clear hK K) | fail)
        refine (HPF.out w2).mono ?_
        rintro ev w3 ⟨hb, hb3⟩
        have HB3 : Hid (Below G w w3) := HB2.out.trans (hb3.mono (Nat.le_of_lt BG2.out.lt))
        have BG3 : Hid (Bk G TV 60 w3) := BG2.out.below hb3
        clear hb3
        rcases bis_or hb with ⟨hy3, rfl⟩ | ⟨hn3, rfl⟩
        · have HY3 : Hid (okP c.co) := hy3
          clear hy3 hb
          have c29 : w3.cell? ⟨G, 29, none⟩ = some (.string M) := by rw [← HMM.out]; exact (HC.out _ BG3.out).c29
          go_wp2_with fail
          refine (HMS.out w3).mono ?_
          rintro ev w' ⟨rfl, rfl⟩
          go_wp2
          go_ret
          refine ⟨⟨ms, rfl, ?_⟩, by rw [HG.out]; exact HB3.out⟩
          rw [← HMSB.out]
          exact ⟨fun h => ⟨by rw [HN.out]; exact hn8, HY1.out, HY2.out, HY3.out, h⟩, fun h => h.2.2.2.2⟩
        · have HOK : Hid (¬ okC c) := fun h => hn3 h.2.2.2.1
          clear hn3 hb
          go_wp2
          go_ret
          exact ⟨bis_false HOK.out, by rw [HG.out]; exact HB3.out⟩
      · have HOK : Hid (¬ okC c) := fun h => hn2 h.2.2.1
        clear hn2 hb
        go_wp2
        go_ret
        exact ⟨bis_false HOK.out, by rw [HG.out]; exact HB2.out⟩
    · have HOK : Hid (¬ okC c) := fun h => hn1 h.2.1
      clear hn1 hb
      go_wp2
      go_ret
      exact ⟨bis_false HOK.out, by rw [HG.out]; exact HB1.out⟩
  · have hn8i : ¬ (n : Int) ≤ 8 := by omega
    have HOK : Hid (¬ okC c) := fun h => hn8 (by rw [← HN.out]; exact h.1)
    go_enter Tryz.func53, Tryz.ntmps53
    go_wp2
    go_ret
    rw [HG.out, HW0.out]
    exact ⟨bis_false HOK.out, HB0.out⟩
end Go.Proofs.YtbpdielmdhhdfaaGreatDoor
namespace Go.Proofs.YtbpdielmdhhdfaaGreatDoor
open Go.RowKit
set_option linter.unusedVariables false
theorem owns_shape {w : World} {B : Nat} {e : TypeId} {s : Nat} {v : Value} {n : Nat} {xs : List Value} (h : w.ownsRow B e s v n xs) : ∃ a cp, v = .slice a n cp := by
  obtain ⟨_, ⟨rfl, rfl⟩ | ⟨g, cap, cur, rfl, _⟩⟩ := h
  · exact ⟨none, 0, rfl⟩
  · exact ⟨_, cap, rfl⟩
theorem step_append_at {P : Program} (w : World) {ops : Array Oper} {o : Oper} {a : Act} {K : Act → World → Prop} {Q : Exit → Act → World → Prop} {E : Prop} (hgd : o.guard = none) (s x : Operand) (t : TypeId)
    (ho : o.op = .call { callee := .builtin .append, args := #[s, x], argTypes := #[t, t] })
    (base : Nat) (e : TypeId) (i : TypeInfo) (z : Value) (size bytes : Nat) (ht : P.underlying t = some (.slice e)) (hi : P.info? e = some i) (hz : i.zero = some z)
    (hsize : i.size = size) (hby : i.bytes = bytes) (hzs : z.cells.size = size) (hsz : 0 < size)
    (v : Value) (n : Nat) (xs : List Value) (hs : a.eval s = v) (hown : w.ownsRow base e size v n xs)
    (ad : Addr) (m c : Nat) (news : List Value) (hx : a.eval x = .slice (some ad) m c) (hl : news.length = m * size) (hnews : ∀ j u, news[j]? = some u → w.cell? (ad.add j) = some u) (h1 : ∀ u ∈ news, u.oneCell' = true)
    (h63 : n + m ≤ maxLen) (hbytes : (n + m) * bytes ≤ 140737488355328) (hbase : base ≤ w.heap.size) (H : Nat) (hH : w.heap.size = H)
    (h : ∀ (ao : Option Addr) (cap : Nat) (w' : World), w'.ownsRow base e size (.slice ao (n + m : Nat) cap) (n + m) (xs ++ news) → w.grownBy w' v.ownBlock → ((Value.slice ao (n + m : Nat) cap).ownBlock = v.ownBlock ∨ (Value.slice ao (n + m : Nat) cap).ownBlock = some H) → K (a.put o.dst (.slice ao (n + m : Nat) cap)) w') :
    if Region.wanted o (yielded ops a.tmps) = true then Oper.wp P o a w K Q else E := by
  have hw : Region.wanted o (yielded ops a.tmps) = true := by simp [Region.wanted, hgd]
  rw [if_pos hw]
  obtain ⟨v', w', hr, h2, h3, _, h5⟩ := run_append_own_at (P := P) w base t o.type e i z size bytes ht hi hz hsize hby hzs hsz v n xs hown ad m c news hl hnews h1 h63 hbytes hbase
  obtain ⟨ao, cap, rfl⟩ := owns_shape h2
  unfold Oper.wp execOp
  simp only [ho, resolve, invoke, builtin, Sem.run_bind, Sem.run_pure, Result.andThen_ok, List.map_toArray, List.map_cons, List.map_nil, hs, hx, hr]
  exact h ao cap w' h2 h3 (hH ▸ h5)
theorem wpList_append_at {P : Program} (w : World) {ops : Array Oper} {rest : List Oper} {o : Oper} {a : Act} {Q : Exit → Act → World → Prop} (hgd : o.guard = none) (s x : Operand) (t : TypeId)
    (ho : o.op = .call { callee := .builtin .append, args := #[s, x], argTypes := #[t, t] })
    (base : Nat) (e : TypeId) (i : TypeInfo) (z : Value) (size bytes : Nat) (ht : P.underlying t = some (.slice e)) (hi : P.info? e = some i) (hz : i.zero = some z)
    (hsize : i.size = size) (hby : i.bytes = bytes) (hzs : z.cells.size = size) (hsz : 0 < size)
    (v : Value) (n : Nat) (xs : List Value) (hs : a.eval s = v) (hown : w.ownsRow base e size v n xs)
    (ad : Addr) (m c : Nat) (news : List Value) (hx : a.eval x = .slice (some ad) m c) (hl : news.length = m * size) (hnews : ∀ j u, news[j]? = some u → w.cell? (ad.add j) = some u) (h1 : ∀ u ∈ news, u.oneCell' = true)
    (h63 : n + m ≤ maxLen) (hbytes : (n + m) * bytes ≤ 140737488355328) (hbase : base ≤ w.heap.size) (H : Nat) (hH : w.heap.size = H)
    (h : ∀ (ao : Option Addr) (cap : Nat) (w' : World), w'.ownsRow base e size (.slice ao (n + m : Nat) cap) (n + m) (xs ++ news) → w.grownBy w' v.ownBlock → ((Value.slice ao (n + m : Nat) cap).ownBlock = v.ownBlock ∨ (Value.slice ao (n + m : Nat) cap).ownBlock = some H) → wpList P ops Q rest (a.put o.dst (.slice ao (n + m : Nat) cap)) w') :
    wpList P ops Q (o :: rest) a w :=
  wpList_plain hgd fun K hK => by
    have := step_append_at (P := P) w (ops := ops) (o := o) (a := a) (K := K) (Q := Q) (E := False) hgd s x t ho base e i z size bytes ht hi hz hsize hby hzs hsz v n xs hs hown ad m c news hx hl hnews h1 h63 hbytes hbase H hH (fun ao cap w' h2 h3 h4 => hK _ _ (h ao cap w' h2 h3 h4))
    rwa [if_pos (by simp [Region.wanted, hgd])] at this
theorem append_nil (cap : Nat) (w : World) : (Builtin.append_ #[23, 23] 23 #[.slice none 0 0, .slice none 0 cap]).run Tryz.prog w = .ok (.slice none 0 0) w := by kernel_rfl
end Go.Proofs.YtbpdielmdhhdfaaGreatDoor
