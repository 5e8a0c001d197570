import Derived.Test.YtijeogdnjeamaaaGreatDoorQo08
import Derived.Test.YtijeogdnjeamaaaGreatDoorQo09
import Derived.Shelf.Strconv.Itoa3
import Derived.Shelf.Pu.ParseUintPublic10
import Derived.Test.YtijeogdnjeamaaaGreatDoorProg
import Derived.Test.YtijeogdnjeamaaaGreatDoorQo07
namespace Go.Proofs.YtijeogdnjeamaaaGreatDoor
open Go.RowKit
set_option linter.unusedVariables false
set_option linter.unusedSimpArgs false
theorem isN_long {s : Str} (h : 60 < s.length) : Nm.isN s = false := by
  unfold Nm.isN Nm.docOk
  have h1 : (s == [72, 69, 65, 68]) = false := by
    simp
    intro e
    rw [e] at h
    simp at h
  rw [h1, decide_eq_false (by omega)]
  simp
theorem isN_len {s : Str} (h : Nm.isN s = true) : s.length ≤ 60 := by
  rcases Nat.lt_or_ge 60 s.length with h1 | h1
  · rw [isN_long h1] at h
    cases h
  · exact h1
theorem isN_bytes {s : Str} (h : Nm.isN s = true) (c : UInt8) (hc : c.toNat < 33) : c ∉ s := by
  intro hm
  by_cases hh : s = [72, 69, 65, 68]
  · subst hh
    simp at hm
    rcases hm with rfl | rfl | rfl | rfl <;> revert hc <;> decide
  · rw [Nm.isN_not hh] at h
    unfold Nm.prgOk at h
    simp only [Bool.and_eq_true] at h
    have h1 := List.all_eq_true.1 h.1.1.1.2 c hm
    unfold Nm.byteOk at h1
    simp only [Bool.and_eq_true, decide_eq_true_eq] at h1
    omega
theorem isN_ne {s : Str} (h : Nm.isN s = true) : s ≠ [] := by
  intro e
  subst e
  revert h
  decide
set_option maxRecDepth 20000 in
theorem isName2 (s : Str) (hs : s.length ≤ 1000000000000000) (w : World) (hm : Nm.Mx w) : Calls Tryz.prog 29 #[.string ⟨s.toArray⟩] w fun e w' => e = .returned (.bool (Nm.isN s)) ∧ Below w.heap.size w w' := by
  by_cases h : s.length ≤ 60
  · exact Nm.isName_any s (by omega) w hm
  · rw [isN_long (by omega)]
    obtain ⟨S, HS⟩ : ∃ S : ByteArray, Hid (⟨s.toArray⟩ = S) := ⟨_, hid rfl⟩
    obtain ⟨n, HN⟩ : ∃ n, Hid (s.length = n) := ⟨_, rfl⟩
    have hsz : S.size = n := by rw [← HS.out, txt_len]; exact HN.out
    have he : (S.toList == [72, 69, 65, 68]) = false := by
      rw [← HS.out, Lib.toList_data]
      simp
      intro e
      rw [e] at h
      simp at h
    have hni : ¬ (n : Int) ≤ 60 := by have := HN.out; omega
    have HB : Hid (Below w.heap.size w w) := hid (Below.refl _ _)
    rw [HS.out]
    clear h
    go_enter Tryz.func29, Tryz.ntmps29
    go_wp2
    go_ret
    exact ⟨rfl, HB.out⟩
set_option maxRecDepth 20000 in
theorem refName2 (s : Str) (hs : s.length ≤ 1000000000000000) (w : World) : Calls Tryz.prog 32 #[.string ⟨s.toArray⟩] w fun e w' => e = .returned (.bool (Nm.isN s)) ∧ Below w.heap.size w w' := by
  by_cases h : s.length ≤ 60
  · exact Nm.refName_any s (by omega) w
  · rw [isN_long (by omega)]
    obtain ⟨S, HS⟩ : ∃ S : ByteArray, Hid (⟨s.toArray⟩ = S) := ⟨_, hid rfl⟩
    obtain ⟨n, HN⟩ : ∃ n, Hid (s.length = n) := ⟨_, rfl⟩
    have hsz : S.size = n := by rw [← HS.out, txt_len]; exact HN.out
    have he : (S.toList == [72, 69, 65, 68]) = false := by
      rw [← HS.out, Lib.toList_data]
      simp
      intro e
      rw [e] at h
      simp at h
    have hni : (60 : Int) < (n : Int) := by have := HN.out; omega
    have HB : Hid (Below w.heap.size w w) := hid (Below.refl _ _)
    rw [HS.out]
    clear h
    go_enter Tryz.func32, Tryz.ntmps32
    go_wp2
    go_ret
    exact ⟨rfl, HB.out⟩
end Go.Proofs.YtijeogdnjeamaaaGreatDoor
namespace Go.Proofs.YtijeogdnjeamaaaGreatDoor
open Go.RowKit
set_option linter.unusedVariables false
set_option linter.unusedSimpArgs false
abbrev Sta := Str × Int
def st0 : Sta := ([], 0)
def dgt (d : Nat) : UInt8 := UInt8.ofNat (48 + d)
def d3 (n : Nat) : Str := if n < 10 then [dgt n] else if n < 100 then [dgt (n / 10), dgt (n % 10)] else [dgt (n / 100), dgt (n / 10 % 10), dgt (n % 10)]
theorem index_at (n d : Str) (h : (32 : UInt8) ∉ n) : Lib.index (n ++ 32 :: d) [32] = n.length := by
  refine Lib.index_first (by rw [List.length_append]; omega) ?_ (fun j hj => ?_)
  · unfold Lib.occAt
    rw [List.drop_left]
    simp
  · unfold Lib.occAt
    have e1 : n.drop j = n[j] :: n.drop (j + 1) := List.drop_eq_getElem_cons hj
    have hne : ¬ (32 : UInt8) = n[j] := fun e => h (by rw [e]; exact List.getElem_mem _)
    rw [List.drop_append_of_le_length (by omega), e1, List.cons_append, List.isPrefixOf, beq_false_of_ne hne]
    rfl
theorem cut_at (n d : Str) (h : (32 : UInt8) ∉ n) : Lib.cut (n ++ 32 :: d) [32] = (n, d, true) := by
  unfold Lib.cut
  rw [index_at n d h, if_pos (by omega)]
  simp
theorem cut_len (s : Str) : (Lib.cut s [32]).1.length ≤ s.length := by
  unfold Lib.cut
  split
  · rw [List.length_take]; omega
  · exact Nat.le_refl _
theorem cut_len2 (s : Str) : (Lib.cut s [32]).2.1.length ≤ s.length := by
  unfold Lib.cut
  split
  · rw [List.length_drop]; omega
  · simp
end Go.Proofs.YtijeogdnjeamaaaGreatDoor
namespace Go.Proofs.YtijeogdnjeamaaaGreatDoor
open Go.RowKit
set_option linter.unusedVariables false
set_option linter.unusedSimpArgs false
theorem ps_one (w : World) (s : Str) (u : ByteArray) (hu : ⟨s.toArray⟩ = u) : PS (w.alloc (.cells #[.string u] 9)) (some ⟨w.heap.size, 0, none⟩) 1 [s] :=
  ⟨Nat.le_refl _, fun _ => ⟨w.heap.size, 0, rfl, by simp, fun i hi j v hv => by
    obtain rfl : i = 0 := by simpa using hi
    have := range_row (heap_alloc_new w (.cells ([sV s] : List Value).toArray 9)) j v hv
    rw [← hu]
    simpa [sV] using this⟩, fun h => by cases h⟩
end Go.Proofs.YtijeogdnjeamaaaGreatDoor
namespace Go.Proofs.YtijeogdnjeamaaaGreatDoor
open Go.RowKit
set_option linter.unusedVariables false
set_option linter.unusedSimpArgs false
def PostPr (s : Str) (w : World) (e : Ending) (w' : World) : Prop :=
  Below w.heap.size w w' ∧ ((∃ x, prs s = some x ∧ e = .returned (.tuple #[idV x, .nilIface])) ∨ (prs s = none ∧ e = .returned (.tuple #[idV z20, .iface 37 (.int .i64 12)])))
theorem parseP (s : Str) (hl : s.length ≤ 300000) (w : World) : Calls Tryz.prog 123 #[.string ⟨s.toArray⟩] w (PostPr s w) := by
  refine (Hx.parse_prog ⟨s.toArray⟩ w (by rw [txt_len]; exact hl)).mono ?_
  rintro e w' ⟨hb, h1, h2⟩
  refine ⟨hb, ?_⟩
  by_cases h : (⟨s.toArray⟩ : ByteArray).size = 40 ∧ Hx.good ⟨s.toArray⟩
  · exact .inl ⟨_, prs_yes h, h1 h⟩
  · exact .inr ⟨prs_not h, h2 h⟩
end Go.Proofs.YtijeogdnjeamaaaGreatDoor
namespace Go.Proofs.YtijeogdnjeamaaaGreatDoor
open Go.RowKit
set_option linter.unusedVariables false
set_option linter.unusedSimpArgs false
theorem elem63 : Tryz.prog.underlying 63 = some (.slice (Tryz.prog.elem 63)) := by kernel_rfl
theorem size63e (w : World) : (Go.sizeOf (Tryz.prog.elem 63)).run Tryz.prog w = .ok 1 w := by kernel_rfl
theorem sl63l (a : Option Addr) (n cap i : Nat) (hi : i ≤ n) (w : World) : (Instr.slice 63 (.slice a n cap) (some (.int .i64 i)) none none).run Tryz.prog w = .ok (.slice (adX 1 a cap i) (n - i : Nat) (cap - i : Nat)) w := by
  rw [run_slice_l w 63 a n cap elem63 .i64 i (by omega) (by omega), size63e, Result.andThen_ok, sliced]
  rfl
theorem drop_at (ts : List Str) (i : Nat) (h : i < ts.length) : ts.drop i = ts.getD i [] :: ts.drop (i + 1) := by
  rw [List.drop_eq_getElem_cons h, List.getD_eq_getElem?_getD, List.getElem?_eq_getElem h]
  rfl
end Go.Proofs.YtijeogdnjeamaaaGreatDoor
namespace Go.Proofs.YtijeogdnjeamaaaGreatDoor
open Go.RowKit
set_option linter.unusedVariables false
set_option linter.unusedSimpArgs false
theorem results_cell {P : Program} {fn : Func} {p : Tmp} {ty : TypeId} (h : fn.results = #[.cell p ty]) (tmps : Array Value) (w : World) (g : Nat) (cs : List Value) (d : TypeDesc)
    (hp : tmps.getD p undef = .pointer (some ⟨g, 0, none⟩)) (hc : w.rangeAt g 0 cs) (hu : P.underlying ty = some d) (hd : d.isRow = true) (hi : (P.info? ty).map (·.size) = some cs.length) :
    (results fn tmps).run P w = .ok (.agg cs.toArray) w := by
  have hp' : tmps[p]?.getD undef = .pointer (some ⟨g, 0, none⟩) := by simpa using hp
  simp [results, h, hp', asAddr, run_loadVar_mid w g 0 ty cs d hc hu hd hi]
theorem wpList_build2 {P : Program} {ops : Array Oper} {rest : List Oper} {o : Oper} {a : Act} {w w' : World} {Q : Exit → Act → World → Prop} (hg : o.guard = none) (t : Nat) (x0 x1 : Operand) (ho : o.op = .build t #[(0, x0), (1, x1)]) (u0 u1 v : Value) (h0 : a.eval x0 = u0) (h1 : a.eval x1 = u1)
    (hr : (Instr.build t #[(0, u0), (1, u1)]).run P w = .ok v w')
    (h : wpList P ops Q rest (a.put o.dst v) w') : wpList P ops Q (o :: rest) a w := by
  refine wpList_plain hg fun K hK => ?_
  unfold Oper.wp execOp
  simp [ho, h0, h1, hr, Result.andThen]
  exact hK _ _ h
end Go.Proofs.YtijeogdnjeamaaaGreatDoor
namespace Go.Proofs.YtijeogdnjeamaaaGreatDoor
open Go.RowKit
set_option linter.unusedVariables false
set_option linter.unusedSimpArgs false
theorem equal_any {w : World} (a : Option Addr) (ca : Nat) (s : Str) (hA : PB w a ca s) (b : Option Addr) (cb : Nat) (t : Str) (hB : PB w b cb t) :
    Calls Tryz.prog 100 #[.slice a s.length ca, .slice b t.length cb] w fun e w' => e = .returned (.bool (s == t)) ∧ w' = w := by
  obtain ⟨n, HN⟩ : ∃ n, Hid (s.length = n) := ⟨_, rfl⟩
  obtain ⟨m, HM⟩ : ∃ n, Hid (t.length = n) := ⟨_, rfl⟩
  have h1 : (convert 25 9 (.slice a n ca)).run Tryz.prog w = .ok (sV s) w := by rw [← HN.out]; exact conv_str hA
  have h2 : (convert 25 9 (.slice b m cb)).run Tryz.prog w = .ok (sV t) w := by rw [← HM.out]; exact conv_str hB
  unfold sV at h1 h2
  rw [HN.out, HM.out]
  clear hA hB
  go_enter Tryz.func100, Tryz.ntmps100
  go_wp2
  go_ret
  exact ⟨rfl, rfl⟩
theorem st_new (w : World) (t : TypeId) (z : Array Value) (Y : List Value) (h : Y.length = z.size) : ∃ w', (w.alloc (.cells z t)).setCells w.heap.size 0 Y.toArray.toList = w' ∧ (w.alloc (.cells z t)).there w.heap.size 0 Y.toArray.size ∧ Below w.heap.size w w' ∧ w'.rangeAt w.heap.size 0 Y := by
  have ht : (w.alloc (.cells z t)).there w.heap.size 0 Y.toArray.size := there_off (heap_alloc_new w _) 0 (by rw [List.size_toArray, h]; omega)
  exact ⟨_, rfl, ht, below_setCells (Nat.le_refl _) _ _ _ _ ((Below.refl _ w).alloc (Nat.le_refl _) _), World.rangeAt_setCells_same _ _ 0 _ (by rwa [List.size_toArray] at ht)⟩
end Go.Proofs.YtijeogdnjeamaaaGreatDoor
namespace Go.Proofs.YtijeogdnjeamaaaGreatDoor
open Go.RowKit
set_option linter.unusedVariables false
set_option linter.unusedSimpArgs false
theorem results_tmp3 {P : Program} {fn : Func} {p q r : Tmp} (h : fn.results = #[.tmp p, .tmp q, .tmp r]) (tmps : Array Value) (w : World) : (results fn tmps).run P w = .ok (.tuple #[tmps.getD p undef, tmps.getD q undef, tmps.getD r undef]) w := by
  simp [results, h]
end Go.Proofs.YtijeogdnjeamaaaGreatDoor
namespace Go.Proofs.YtijeogdnjeamaaaGreatDoor
open Go.RowKit
set_option linter.unusedVariables false
set_option linter.unusedSimpArgs false
theorem Mx_kept {w w' : World} {row : Option Nat} (h : Nm.Mx w) (hg : w.grownBy w' row) (hr : row ≠ some 1) : Nm.Mx w' := by
  obtain ⟨m, hm⟩ := h
  exact ⟨m, hg.cell hm (fun e => hr e.symm)⟩
end Go.Proofs.YtijeogdnjeamaaaGreatDoor
namespace Go.Proofs.YtijeogdnjeamaaaGreatDoor
open Go.RowKit
set_option linter.unusedVariables false
set_option linter.unusedSimpArgs false
abbrev Chg := Str × (List Int × List Int)
end Go.Proofs.YtijeogdnjeamaaaGreatDoor
namespace Go.Proofs.YtijeogdnjeamaaaGreatDoor
open Go.RowKit
set_option linter.unusedVariables false
set_option linter.unusedSimpArgs false
abbrev Rf := Str × List Int
def encR (x : Rf) : List Value := sV x.1 :: row .u8 x.2
def encR2 (x : Rf) : List Value := sV x.1 :: (row .u8 x.2 ++ [sV []])
def rf0 : Rf := ([], [])
def IdR (l : List Rf) : Prop := ∀ x ∈ l, IdW x.2
theorem encR_len {x : Rf} (h : IdW x.2) : (encR x).length = 21 := by
  unfold encR
  rw [List.length_cons, row_len, h.1]
theorem encR2_len {x : Rf} (h : IdW x.2) : (encR2 x).length = 22 := by
  unfold encR2
  rw [List.length_cons, List.length_append, row_len, h.1]
  rfl
theorem encR_ln {l : List Rf} (h : IdR l) : ∀ x ∈ l, (encR x).length = 21 := fun x hx => encR_len (h x hx)
theorem encR2_ln {l : List Rf} (h : IdR l) : ∀ x ∈ l, (encR2 x).length = 22 := fun x hx => encR2_len (h x hx)
theorem less_tot : ∀ a b : Str, (Op.bytesLess a b || a == b) = !Op.bytesLess b a
  | [], [] => rfl
  | [], b :: y => by simp [Op.bytesLess]
  | a :: x, [] => by simp [Op.bytesLess]
  | a :: x, b :: y => by
    have ih := less_tot x y
    unfold Op.bytesLess
    by_cases h1 : a < b
    · have h2 : ¬ b < a := UInt8.lt_asymm h1
      have h3 : ¬ b = a := fun e => by subst e; exact UInt8.lt_irrefl _ h1
      simp [h1, h2, h3]
    · by_cases h2 : b < a
      · have h3 : ¬ a = b := fun e => by subst e; exact UInt8.lt_irrefl _ h2
        simp [h1, h2, h3]
      · have h3 : a = b := UInt8.le_antisymm (UInt8.not_lt.1 h2) (UInt8.not_lt.1 h1)
        subst h3
        simp only [h1, decide_false, Bool.false_or, beq_self_eq_true, Bool.true_and, List.cons_beq_cons]
        exact ih
theorem less_nil {s : Str} (h : s ≠ []) : Op.bytesLess [] s = true := by
  cases s with
  | nil => exact absurd rfl h
  | cons a r => rfl
def okAt (l : List Rf) (i : Nat) : Prop := Nm.isN (l.getD i rf0).1 = true ∧ (0 < i → Op.bytesLess (l.getD (i - 1) rf0).1 (l.getD i rf0).1 = true)
def prevN (l : List Rf) (i : Nat) : Str := if i = 0 then [] else (l.getD (i - 1) rf0).1
theorem okAt_prev {l : List Rf} {i : Nat} : okAt l i ↔ (Nm.isN (l.getD i rf0).1 = true ∧ Op.bytesLess (prevN l i) (l.getD i rf0).1 = true) := by
  unfold okAt prevN
  constructor
  · rintro ⟨h1, h2⟩
    refine ⟨h1, ?_⟩
    split
    · exact less_nil (isN_ne h1)
    · exact h2 (by omega)
  · rintro ⟨h1, h2⟩
    refine ⟨h1, fun h0 => ?_⟩
    rwa [if_neg (by omega)] at h2
def OkR (l : List Rf) : Prop := (∀ i, i < l.length → okAt l i) ∧ l.length ≤ 500
def OkO (h : Str) (l : List Rf) : Prop := (h = [] ∨ Nm.isN h = true) ∧ OkR l
theorem OkR.name {l : List Rf} (h : OkR l) : ∀ x ∈ l, Nm.isN x.1 = true := fun x hx => by
  obtain ⟨i, hi, e⟩ := List.getElem_of_mem hx
  have := (h.1 i hi).1
  rw [List.getD_eq_getElem?_getD, List.getElem?_eq_getElem hi] at this
  simp only [Option.getD_some] at this
  rw [e] at this
  exact this
def rfT (x : Rf) : Str := (hxS x.2 ++ [32]) ++ x.1
def hWo : Str := [104, 101, 97, 100, 32]
def hWd : Str := [104, 101, 97, 100]
def hdL (h : Str) : List Str := if h = [] then [] else [hWo ++ h]
def ofL (h : Str) (l : List Rf) : List Str := hdL h ++ (l.map rfT ++ [[]])
def ofB (h : Str) (l : List Rf) : Str := pktL ((ofL h l).map tx)
theorem rfT_eq (x : Rf) : rfT x = hxS x.2 ++ 32 :: x.1 := by simp [rfT]
theorem rfT_ne (x : Rf) : rfT x ≠ [] := by rw [rfT_eq]; simp
theorem rfT_len {x : Rf} (h : IdW x.2) : (rfT x).length = 41 + x.1.length := by
  rw [rfT_eq, List.length_append, List.length_cons, hxS_len _ h]
  omega
theorem hdL_len {h : Str} (hh : h = [] ∨ Nm.isN h = true) : ∀ t ∈ hdL h, t.length ≤ 65 := by
  intro t ht
  unfold hdL at ht
  split at ht
  · cases ht
  · rcases hh with e | e
    · contradiction
    · have := isN_len e
      rw [List.mem_singleton.1 ht, List.length_append]
      simp [hWo]
      omega
theorem ofL_len {h : Str} {l : List Rf} (ho : OkO h l) (hi : IdR l) : ∀ t ∈ ofL h l, t.length ≤ 101 := by
  intro t ht
  rcases List.mem_append.1 ht with ht | ht
  · have := hdL_len ho.1 t ht
    omega
  · rcases List.mem_append.1 ht with ht | ht
    · obtain ⟨x, hx, rfl⟩ := List.mem_map.1 ht
      have := isN_len (ho.2.name x hx)
      rw [rfT_len (hi x hx)]
      omega
    · rw [List.mem_singleton.1 ht]; simp
theorem ofL_ok {h : Str} {l : List Rf} (ho : OkO h l) (hi : IdR l) : okL ((ofL h l).map tx) := by
  intro t ht
  obtain ⟨u, hu, rfl⟩ := List.mem_map.1 ht
  have := ofL_len ho hi u hu
  have := tx_len u
  omega
def rr1 (t : Str) : Option Rf := match prs (Lib.cut t [32]).1 with
  | some a => some ((Lib.cut t [32]).2.1, a)
  | none => none
theorem rr1_yes {t : Str} {a : List Int} (h : prs (Lib.cut t [32]).1 = some a) : rr1 t = some ((Lib.cut t [32]).2.1, a) := by rw [rr1, h]
theorem rr1_no {t : Str} (h : prs (Lib.cut t [32]).1 = none) : rr1 t = none := by rw [rr1, h]
theorem rr1_rfT {x : Rf} (h : IdW x.2) : rr1 (rfT x) = some x := by
  have e1 : Lib.cut (rfT x) [32] = (hxS x.2, x.1, true) := by
    rw [rfT_eq]
    exact cut_at _ _ (hxS_no _ h 32 (by decide))
  rw [rr1_yes (a := x.2) (by rw [e1]; exact prs_hx _ h), e1]
theorem rr1_nil : rr1 [] = none := rr1_no (prs_short (by
  have := cut_len []
  simp at this ⊢
  rw [this]
  simp))
theorem rr1_wf {t : Str} {x : Rf} (h : rr1 t = some x) : IdW x.2 ∧ x.1.length ≤ t.length := by
  unfold rr1 at h
  split at h
  · rename_i a h1
    cases h
    exact ⟨(prs_wf h1).1, cut_len2 _⟩
  · cases h
def rdR : List Str → List Rf × List Str
  | [] => ([], [])
  | t :: ts => match rr1 t with
    | some x => (x :: (rdR ts).1, (rdR ts).2)
    | none => ([], t :: ts)
theorem rdR_some {t : Str} {ts : List Str} {x : Rf} (h : rr1 t = some x) : rdR (t :: ts) = (x :: (rdR ts).1, (rdR ts).2) := by rw [rdR, h]
theorem rdR_none {t : Str} {ts : List Str} (h : rr1 t = none) : rdR (t :: ts) = ([], t :: ts) := by rw [rdR, h]
theorem rdR_map (r : List Str) : ∀ l : List Rf, IdR l → rdR (l.map rfT ++ r) = (l ++ (rdR r).1, (rdR r).2)
  | [], _ => rfl
  | x :: l, h => by
    have ih := rdR_map r l (fun y hy => h y (by simp [hy]))
    have e : List.map rfT (x :: l) ++ r = rfT x :: (l.map rfT ++ r) := rfl
    rw [e, rdR_some (rr1_rfT (h x (by simp))), ih]
    rfl
theorem rdR_rows {l : List Rf} (h : IdR l) : (rdR (l.map rfT ++ [[]])).1 = l := by
  rw [rdR_map _ l h, rdR_none rr1_nil, List.append_nil]
theorem rdR_wf (B : Nat) : ∀ ts : List Str, (∀ t ∈ ts, t.length ≤ B) → ∀ x ∈ (rdR ts).1, IdW x.2 ∧ x.1.length ≤ B
  | [], _, x, hx => by cases hx
  | t :: ts, h, x, hx => by
    cases hr : rr1 t with
    | none => rw [rdR_none hr] at hx; cases hx
    | some y =>
      rw [rdR_some hr] at hx
      rcases List.mem_cons.1 hx with rfl | hx
      · exact ⟨(rr1_wf hr).1, Nat.le_trans (rr1_wf hr).2 (h t (by simp))⟩
      · exact rdR_wf B ts (fun u hu => h u (by simp [hu])) x hx
def rdO : List Str → Str × List Rf
  | [] => ([], [])
  | t :: ts => if t.take 5 = hWo then (t.drop 5, (rdR ts).1) else ([], (rdR (t :: ts)).1)
theorem rfT_head {x : Rf} (h : IdW x.2) : ¬ (rfT x).take 5 = hWo := by
  rw [rfT_eq, List.take_append_of_le_length (by rw [hxS_len _ h]; omega)]
  intro e
  have h1 : (32 : UInt8) ∈ (hxS x.2).take 5 := by rw [e]; simp [hWo]
  exact hxS_no _ h 32 (by decide) (List.mem_of_mem_take h1)
theorem rdO_ofL {h : Str} {l : List Rf} (hi : IdR l) : rdO (ofL h l) = (h, l) := by
  unfold ofL hdL
  by_cases h0 : h = []
  · rw [if_pos h0, List.nil_append]
    cases l with
    | nil => rw [h0]; rfl
    | cons x l =>
      have e : List.map rfT (x :: l) ++ [[]] = rfT x :: (l.map rfT ++ [[]]) := rfl
      rw [e, rdO, if_neg (rfT_head (hi x (by simp))), ← e, rdR_rows hi, h0]
  · rw [if_neg h0]
    show rdO ((hWo ++ h) :: (l.map rfT ++ [[]])) = _
    have e1 : (hWo ++ h).take 5 = hWo := List.take_left' rfl
    have e2 : (hWo ++ h).drop 5 = h := List.drop_left' rfl
    rw [rdO, if_pos e1, e2, rdR_rows hi]
theorem rdO_wf (B : Nat) (ts : List Str) (h : ∀ t ∈ ts, t.length ≤ B) : (rdO ts).1.length ≤ B ∧ ∀ x ∈ (rdO ts).2, IdW x.2 ∧ x.1.length ≤ B := by
  cases ts with
  | nil => exact ⟨by simp [rdO], fun x hx => by cases hx⟩
  | cons t ts =>
    rw [rdO]
    split
    · refine ⟨?_, rdR_wf B ts (fun u hu => h u (by simp [hu]))⟩
      rw [List.length_drop]
      have := h t (by simp)
      omega
    · exact ⟨by simp, rdR_wf B _ h⟩
structure Ook (s : Str) (h : Str) (l : List Rf) : Prop where
  ok : OkO h l
  ids : IdR l
  b : s = ofB h l
theorem ook_lines {s h : Str} {ls : List Str} {l : List Rf} (k : Ook s h l) (hok : okL ls) (hs : s = pktL ls) : ls = (ofL h l).map tx := pktL_inj hok (ofL_ok k.ok k.ids) (by rw [← hs]; exact k.b)
theorem ook_read {s h : Str} {ls : List Str} {l : List Rf} (k : Ook s h l) (hok : okL ls) (hs : s = pktL ls) : rdO (ls.map noEnd) = (h, l) := by
  rw [ook_lines k hok hs, map_noEnd, rdO_ofL k.ids]
theorem ook_ls {s h : Str} {l : List Rf} (k : Ook s h l) : ∃ ls, okL ls ∧ s = pktL ls := ⟨_, ofL_ok k.ok k.ids, k.b⟩
theorem ook_one {s h h2 : Str} {l l2 : List Rf} (k : Ook s h l) (k2 : Ook s h2 l2) : h = h2 ∧ l = l2 := by
  obtain ⟨ls, hok, hs⟩ := ook_ls k
  have e1 := ook_read k hok hs
  have e2 := ook_read k2 hok hs
  rw [e1] at e2
  exact ⟨congrArg Prod.fst e2, congrArg Prod.snd e2⟩
def stO (o : Str × List Rf) (x : Str) : Str × List Rf := match wdsA [] x with
  | [a, b] => match prs a with
    | some u => (o.1, o.2 ++ [(b, u)])
    | none => if a = hWd then (b, o.2) else o
  | _ => o
theorem stO_id {o : Str × List Rf} {x a b : Str} {u : List Int} (h : wdsA [] x = [a, b]) (h1 : prs a = some u) : stO o x = (o.1, o.2 ++ [(b, u)]) := by rw [stO, h]; simp only; rw [h1]
theorem stO_hd {o : Str × List Rf} {x a b : Str} (h : wdsA [] x = [a, b]) (h1 : prs a = none) : stO o x = if a = hWd then (b, o.2) else o := by rw [stO, h]; simp only; rw [h1]
theorem stO_not {o : Str × List Rf} {x : Str} (h : (wdsA [] x).length ≠ 2) : stO o x = o := by
  unfold stO
  split
  · rename_i a b e; rw [e] at h; exact absurd rfl h
  · rfl
def dcO (ls : List Str) : Str × List Rf := ls.foldl stO ([], [])
theorem stO_cnt (o : Str × List Rf) (x : Str) : (stO o x).2.length ≤ o.2.length + 1 := by
  unfold stO
  split
  · split
    · simp
    · split <;> simp
  · simp
theorem stO_wf {o : Str × List Rf} {x : Str} (B : Nat) (hx : x.length ≤ B) (ho : o.1.length ≤ B ∧ ∀ y ∈ o.2, IdW y.2 ∧ y.1.length ≤ B) : (stO o x).1.length ≤ B ∧ ∀ y ∈ (stO o x).2, IdW y.2 ∧ y.1.length ≤ B := by
  unfold stO
  split
  · rename_i a b e
    have hb : b.length ≤ B := by
      have := wds_len x [] b (by rw [e]; simp)
      simp at this
      omega
    split
    · rename_i u h1
      refine ⟨ho.1, fun y hy => ?_⟩
      rcases List.mem_append.1 hy with hy | hy
      · exact ho.2 y hy
      · rw [List.mem_singleton.1 hy]
        exact ⟨(prs_wf h1).1, hb⟩
    · split
      · exact ⟨hb, ho.2⟩
      · exact ho
  · exact ho
theorem stO_rf {o : Str × List Rf} {x : Rf} (h : Nm.isN x.1 = true) (hi : IdW x.2) : stO o (tx (rfT x)) = (o.1, o.2 ++ [x]) := by
  have e : tx (rfT x) = hxS x.2 ++ 32 :: (x.1 ++ [10]) := by
    unfold tx
    rw [if_neg (rfT_ne x), rfT_eq]
    simp
  have hw : wdsA [] (tx (rfT x)) = [hxS x.2, x.1] := by
    rw [e, wds_blank _ [] _ (hxS_no _ hi 10 (by decide)) (hxS_no _ hi 32 (by decide)), wds_plain _ [] (isN_bytes h 10 (by decide)) (isN_bytes h 32 (by decide))]
    simp
  rw [stO_id hw (prs_hx _ hi)]
theorem fold_rf : ∀ (l : List Rf) (o : Str × List Rf), (∀ x ∈ l, Nm.isN x.1 = true) → IdR l → ((l.map rfT).map tx).foldl stO o = (o.1, o.2 ++ l)
  | [], o, _, _ => by simp
  | x :: l, o, h, hi => by
    have e : (List.map rfT (x :: l)).map tx = tx (rfT x) :: (l.map rfT).map tx := rfl
    rw [e, List.foldl_cons, stO_rf (h x (by simp)) (hi x (by simp)), fold_rf l _ (fun y hy => h y (by simp [hy])) (fun y hy => hi y (by simp [hy]))]
    simp
theorem dcO_ofL {h : Str} {l : List Rf} (ho : OkO h l) (hi : IdR l) : dcO ((ofL h l).map tx) = (h, l) := by
  have e0 : ∀ o : Str × List Rf, stO o (tx []) = o := fun o => stO_not (by decide)
  unfold dcO ofL
  rw [List.map_append, List.map_append, List.foldl_append, List.foldl_append]
  unfold hdL
  by_cases h0 : h = []
  · rw [if_pos h0, List.map_nil, List.foldl_nil, fold_rf l _ ho.2.name hi]
    rw [h0]
    exact e0 ([], [] ++ l)
  · have hN : Nm.isN h = true := ho.1.resolve_left h0
    have e : tx (hWo ++ h) = hWd ++ 32 :: (h ++ [10]) := by
      unfold tx
      rw [if_neg (by simp [hWo])]
      simp [hWo, hWd]
    have hw : wdsA [] (tx (hWo ++ h)) = [hWd, h] := by
      rw [e, wds_blank hWd [] _ (by decide) (by decide), wds_plain _ [] (isN_bytes hN 10 (by decide)) (isN_bytes hN 32 (by decide))]
      simp
    rw [if_neg h0]
    show stO (((l.map rfT).map tx).foldl stO (stO ([], []) (tx (hWo ++ h)))) (tx []) = _
    rw [e0, stO_hd hw (prs_short (by decide)), if_pos rfl, fold_rf l _ ho.2.name hi]
    simp
theorem ook_doc {s h : Str} {ls : List Str} {l : List Rf} (k : Ook s h l) (hok : okL ls) (hs : s = pktL ls) : dcO ls = (h, l) := by
  rw [ook_lines k hok hs, dcO_ofL k.ok k.ids]
end Go.Proofs.YtijeogdnjeamaaaGreatDoor
namespace Go.Proofs.YtijeogdnjeamaaaGreatDoor
open Go.RowKit
set_option linter.unusedVariables false
set_option linter.unusedSimpArgs false
theorem range_rf {W : World} {b o : Nat} {x : Rf} (h : W.rangeAt b o (encR x)) : W.cell? ⟨b, o, none⟩ = some (sV x.1) ∧ W.rangeAt b (o + 1) (row .u8 x.2) := by
  refine ⟨h 0 _ rfl, fun j v hv => ?_⟩
  have := h (j + 1) v (by
    unfold encR
    rw [List.getElem?_cons_succ]
    exact hv)
  rw [← this]
  congr 2
  omega
structure Q28 (G : Nat) (X : ByteArray) (O : List Value) (W : World) : Prop where
  c0 : W.cell? ⟨G, 0, none⟩ = some (.string X)
  r1 : W.rangeAt G 1 O
abbrev rfV (x : Rf) : Value := .agg (encR x).toArray
def PostWr (x : Rf) (p : Str) (k : Nat) (w : World) (e : Ending) (w' : World) : Prop :=
  w.grownBy w' (some k) ∧ ((¬ (Nm.isN x.1 = true ∧ Op.bytesLess p x.1 = true) ∧ ∃ u, e = .returned (.tuple #[.string u, .iface 37 (.int .i64 111)])) ∨ ((Nm.isN x.1 = true ∧ Op.bytesLess p x.1 = true) ∧ e = .returned (.tuple #[.string ⟨(rfT x).toArray⟩, .nilIface]) ∧ Boxed w' k 9 (.string ⟨x.1.toArray⟩)))
theorem Tryz.results28 : Tryz.f28.results = #[.tmp 3, .tmp 4] := by kernel_rfl
theorem size70 : (Tryz.prog.info? 70).map (·.size) = some 21 := by kernel_rfl
set_option maxRecDepth 20000 in
set_option maxHeartbeats 1000000 in
theorem writeRfF_any {w : World} {k : Nat} (p : Str) (hk : Boxed w k 9 (.string ⟨p.toArray⟩)) (hk1 : 1 < k) (x : Rf) (hl : x.1.length ≤ 1000000000000000) (hi : IdW x.2) (hm : Nm.Mx w) :
    Calls Tryz.prog 28 #[rfV x, .pointer (some ⟨k, 0, none⟩)] w (PostWr x p k w) := by
  obtain ⟨X, HX⟩ : ∃ X : ByteArray, Hid (⟨x.1.toArray⟩ = X) := ⟨_, hid rfl⟩
  obtain ⟨Pv, HPV⟩ : ∃ X : ByteArray, Hid (⟨p.toArray⟩ = X) := ⟨_, hid rfl⟩
  obtain ⟨G, HG⟩ : ∃ G, Hid (w.heap.size = G) := ⟨_, rfl⟩
  obtain ⟨Y, HY⟩ : ∃ S : List Value, Hid (encR x = S) := ⟨_, rfl⟩
  obtain ⟨O, HO⟩ : ∃ S : List Value, Hid (row .u8 x.2 = S) := ⟨_, rfl⟩
  have hiO : (Tryz.prog.info? 68).map (·.size) = some O.length := by rw [← HO.out, row_len, hi.1]; exact size68
  obtain ⟨w1, HW1⟩ : ∃ u, Hid (w.alloc (.cells Y.toArray 70) = u) := ⟨_, rfl⟩
  have hkG : k < G := by rw [← HG.out]; exact hk.lt
  have hg1 : w.grownBy w1 none := by rw [← HW1.out]; exact World.grownBy_alloc _ _ _
  have hb1 : Below w.heap.size w w1 := by rw [← HW1.out]; exact (Below.refl _ _).alloc (Nat.le_refl _) _
  have hrr : w1.rangeAt G 0 (encR x) := by rw [← HW1.out, ← HG.out, HY.out]; exact range_row (heap_alloc_new w _)
  obtain ⟨q0, q1⟩ := range_rf hrr
  rw [HO.out] at q1
  rw [sV_out, HX.out] at q0
  have hk1b : Boxed w1 k 9 (.string Pv) := by rw [← HPV.out]; exact hk.kept hg1 (by simp)
  have hkc := hk1b.cell
  have hkf := hk1b.frozen
  have hcmp : (Op.bytesLess X.toList Pv.toList || X.toList == Pv.toList) = !Op.bytesLess p x.1 := by
    rw [← HX.out, ← HPV.out]
    have := less_tot x.1 p
    simpa using this
  have C29 : Hid (Calls Tryz.prog 29 #[.string X] w1 fun e w' => e = .returned (.bool (Nm.isN x.1)) ∧ Below w1.heap.size w1 w') := hid (by
    rw [← HX.out]
    exact isName2 x.1 hl w1 (Mx_kept hm hg1 (by simp)))
  have al1 : w.alloc (.cells Y.toArray 70) = w1 := HW1.out
  have hs0 : w.heap.size = G := HG.out
  have HG1 := hid hg1
  have HB1 := hid hb1
  have HQ0 := hid q0
  have HQ1 := hid q1
  have HKB := hid hk1b
  have HKG := hid hkG
  unfold rfV
  rw [HY.out]
  by_cases hlt : Op.bytesLess p x.1 = true
  · have hcf : (Op.bytesLess X.toList Pv.toList || X.toList == Pv.toList) = false := by rw [hcmp, hlt]; rfl
    have hc1 : Op.bytesLess X.toList Pv.toList = false := (Bool.or_eq_false_iff.1 hcf).1
    have hc2 : (X.toList == Pv.toList) = false := (Bool.or_eq_false_iff.1 hcf).2
    have HLT := hid hlt
    clear hk hm hg1 hb1 hrr q1 hk1b hcmp hkG hlt hcf
    go_enter Tryz.func28, Tryz.ntmps28
    go_wp2_with fail
    refine C29.out.mono ?_
    rintro e w2 ⟨rfl, hb2⟩
    have HB2 := hid hb2
    have k2 : w2.cell? ⟨G, 0, none⟩ = some (.string X) := (hb2.cell (p := ⟨G, 0, none⟩) (cell_lt HQ0.out)).trans HQ0.out
    have hbx2 : Boxed w2 k 9 (.string Pv) := HKB.out.kept (grown_of_below hb2 none) (by simp)
    have hc3 := hbx2.cell
    have hf3 := hbx2.frozen
    clear hb2 q0 hkc hkf
    by_cases hN : Nm.isN x.1 = true
    · obtain ⟨w3, HW3⟩ : ∃ u, Hid (w2.setCell ⟨k, 0, none⟩ (.string X) = u) := ⟨_, rfl⟩
      have hbx3 : Boxed w3 k 9 (.string X) := by rw [← HW3.out]; exact hbx2.set _
      have hg3 : w2.grownBy w3 (some k) := by rw [← HW3.out]; exact grownBy_setCell' _ _ _
      have HGN : Hid (Nm.isN x.1 = true ∧ Op.bytesLess p x.1 = true) := hid ⟨hN, HLT.out⟩
      obtain ⟨Oh, HOH⟩ : ∃ W : ByteArray, Hid (⟨(hxS x.2).toArray⟩ = W) := ⟨_, hid rfl⟩
      obtain ⟨Z1, HZ1⟩ : ∃ Z : ByteArray, Hid (Oh ++ (⟨#[32]⟩ : ByteArray) = Z) := ⟨_, hid rfl⟩
      obtain ⟨Z2, HZ2⟩ : ∃ Z : ByteArray, Hid (Z1 ++ X = Z) := ⟨_, hid rfl⟩
      have HZW : Hid ((⟨(rfT x).toArray⟩ : ByteArray) = Z2) := hid (by
        rw [← HZ2.out, ← HZ1.out, ← HOH.out, ← HX.out, show (⟨#[32]⟩ : ByteArray) = ⟨([32] : Str).toArray⟩ from rfl, str_app, str_app]
        rfl)
      have h1b : (⟨#[32]⟩ : ByteArray).size = 1 := rfl
      have hXs : X.size ≤ 1000000000000000 := by rw [← HX.out, txt_len]; exact hl
      have hOh : Oh.size = 40 := by rw [← HOH.out, txt_len]; exact hxS_len _ hi
      have hZ1 : Z1.size = 41 := by rw [← HZ1.out, ByteArray.size_append, hOh]; rfl
      have hgw3 : w1.grownBy w3 (some k) := ((grown_of_below HB2.out none).but _).trans hg3
      have hgwd : w1.grownBy w3.drew (some k) := ⟨hgw3.os, hgw3.tape, hgw3.output, hgw3.size, hgw3.block⟩
      have hne : some G ≠ some k := fun e => by cases e; exact Nat.lt_irrefl _ HKG.out
      have HQW : Hid (∀ W, w3.drew.grownBy W none → Q28 G X O W) := hid (fun W hW => by
        exact ⟨hW.cell (hgwd.cell HQ0.out hne) (by simp), fun j v hv => hW.cell (hgwd.cell (by have := HQ1.out j v hv; simpa using this) hne) (by simp)⟩)
      have C30 : Hid (∀ W, Calls Tryz.prog 30 #[.agg O.toArray] W fun e w' => e = .returned (.string Oh) ∧ Below W.heap.size W w') := hid (fun W => by rw [← HO.out, ← HOH.out]; exact hexP _ hi W)
      have HG3 : Hid (w.grownBy w3.drew (some k)) := hid ((HG1.out.but _).trans hgwd)
      have hbxd : Boxed w3.drew k 9 (.string X) := hbx3.kept (row := none) ⟨rfl, rfl, rfl, Nat.le_refl _, fun _ _ _ => rfl⟩ (by simp)
      have HBX := hid hbxd
      have hst : (store ⟨k, 0, none⟩ (.string X)).run Tryz.prog w2 = .ok () w3 := by
        rw [run_store _ _ _ _ _ rfl, hc3]
        simp [hf3, HW3.out]
      have al3 : w2.setCell ⟨k, 0, none⟩ (.string X) = w3 := HW3.out
      unfold PostWr
      rw [hN, HZW.out, HX.out]
      clear hbx2 hbx3 hg3 hgw3 hgwd hbxd hN hl hi hne
      go_wp2_with fail
      refine wp_region_held_drew (S := Q28 G X O) (by kernel_rfl) (HQW.out _ (World.grownBy.refl _ _)) (fun hHeld => ?_)
      generalize w3.drew = u0 at hHeld HQW HG3 HBX ⊢
      refine takeL (i := 0) (v := ?_) rfl (by kernel_rfl) (by kernel_rfl) (by kernel_rfl) (fun _ _ _ h => h) (Or.inl ⟨by rfl, ?_⟩) hHeld ?_
      rotate_left
      · rintro w' ⟨c0, r1⟩; go_simp; rfl
      try simp only [Act.put, List.setIfInBounds_toArray, List.set_cons_zero, List.set_cons_succ]
      refine takeL (i := 1) (v := .agg O.toArray) rfl (by kernel_rfl) (by kernel_rfl) (by kernel_rfl) (fun _ _ _ h => h) (yieldsIf_load_mid (by kernel_rfl) 68 _ rfl G (1) (by rfl) O _ (fun w' h => h.r1) Tryz.underlying68 rfl hiO) hHeld ?_
      try simp only [Act.put, List.setIfInBounds_toArray, List.set_cons_zero, List.set_cons_succ]
      refine takeL (i := 4) (v := ?_) rfl (by kernel_rfl) (by kernel_rfl) (by kernel_rfl) (fun _ _ _ h => h) (Or.inl ⟨by rfl, ?_⟩) hHeld ?_
      rotate_left
      · rintro w' ⟨c0, r1⟩; go_simp; rfl
      try simp only [Act.put, List.setIfInBounds_toArray, List.set_cons_zero, List.set_cons_succ]
      refine takeL (i := 5) (v := ?_) rfl (by kernel_rfl) (by kernel_rfl) (by kernel_rfl) (fun _ _ _ h => h) (Or.inl ⟨by rfl, ?_⟩) hHeld ?_
      rotate_left
      · rintro w' ⟨c0, r1⟩; go_simp; rfl
      try simp only [Act.put, List.setIfInBounds_toArray, List.set_cons_zero, List.set_cons_succ]
      refine wpAnyH_ready (rs := [2]) (by kernel_rfl) (by simp) ?_
      refine consL rfl (fun KK hKK => ?_) AllReadyH.nil
      refine step_callv (by rfl) 30 [.tmp 19] _ [.agg O.toArray] _ (by rfl) (by rfl) (enter30 _) (C30.out _) ?_
      rintro ev w4 ⟨rfl, hb⟩
      refine ⟨_, rfl, ?_⟩
      have HU4 : Hid (u0.grownBy w4 none) := hid (grown_of_below hb _)
      refine hKK.out _ _ (HQW.out _ HU4.out) (fun hHeld2 => ?_)
      clear hKK KK hb
      try simp only [Act.put, List.setIfInBounds_toArray, List.set_cons_zero, List.set_cons_succ]
      refine takeL (i := 3) (v := .string Z1) rfl (by kernel_rfl) (by kernel_rfl) (by kernel_rfl) (fun _ _ _ h => h) (Or.inl ⟨by rfl, ?_⟩) hHeld2 ?_
      · rintro w' ⟨c0, r1⟩; rw [← HZ1.out]; go_simp; first | done | omega | rfl
      try simp only [Act.put, List.setIfInBounds_toArray, List.set_cons_zero, List.set_cons_succ]
      refine takeL (i := 6) (v := .string Z2) rfl (by kernel_rfl) (by kernel_rfl) (by kernel_rfl) (fun _ _ _ h => h) (Or.inl ⟨by rfl, ?_⟩) hHeld2 ?_
      · rintro w' ⟨c0, r1⟩; rw [← HZ2.out]; go_simp; first | done | omega | rfl
      try simp only [Act.put, List.setIfInBounds_toArray, List.set_cons_zero, List.set_cons_succ]
      refine takeL (i := 7) (v := ?_) rfl (by kernel_rfl) (by kernel_rfl) (by kernel_rfl) (fun _ _ _ h => h) (Or.inl ⟨by rfl, ?_⟩) hHeld2 ?_
      rotate_left
      · rintro w' ⟨c0, r1⟩; go_simp; rfl
      try simp only [Act.put, List.setIfInBounds_toArray, List.set_cons_zero, List.set_cons_succ]
      refine takeL (i := 8) (v := ?_) rfl (by kernel_rfl) (by kernel_rfl) (by kernel_rfl) (fun _ _ _ h => h) (Or.inl ⟨by rfl, ?_⟩) hHeld2 ?_
      rotate_left
      · rintro w' ⟨c0, r1⟩; go_simp; rfl
      try simp only [Act.put, List.setIfInBounds_toArray, List.set_cons_zero, List.set_cons_succ]
      refine wpAnyH_done (by kernel_rfl) ?_ _
      clear hHeld hHeld2
      have HGF : Hid (w.grownBy w4 (some k)) := hid (HG3.out.trans (HU4.out.but _))
      have HBF : Hid (Boxed w4 k 9 (.string X)) := hid (HBX.out.kept HU4.out (by simp))
      go_wp2
      refine bodyPost_ret (results_tmp2 Tryz.results28 _ _ _) rfl ?_
      exact ⟨HGF.out, .inr ⟨HGN.out, by rw [HZW.out]; rfl, by rw [HX.out]; exact HBF.out⟩⟩
    · have hNf : Nm.isN x.1 = false := by simpa using hN
      have HGN : Hid (¬ (Nm.isN x.1 = true ∧ Op.bytesLess p x.1 = true)) := hid (fun h => hN h.1)
      have HG2 : Hid (w.grownBy w2 (some k)) := hid (((HG1.out.but _).trans ((grown_of_below HB2.out none).but _)))
      unfold PostWr
      rw [hNf]
      clear hbx2 hN hNf
      go_wp2
      refine bodyPost_ret (results_tmp2 Tryz.results28 _ _ _) rfl ?_
      exact ⟨HG2.out, .inl ⟨HGN.out, _, rfl⟩⟩
  · have hlf : Op.bytesLess p x.1 = false := by simpa using hlt
    have hcf : (Op.bytesLess X.toList Pv.toList || X.toList == Pv.toList) = true := by rw [hcmp, hlf]; rfl
    have HGN : Hid (¬ (Nm.isN x.1 = true ∧ Op.bytesLess p x.1 = true)) := hid (fun h => hlt h.2)
    have HGF : Hid (w.grownBy w1 (some k)) := hid (HG1.out.but _)
    unfold PostWr
    clear hk hm hg1 hb1 hrr q1 hk1b hcmp hkG hlt hlf
    go_enter Tryz.func28, Tryz.ntmps28
    go_wp2
    refine bodyPost_ret (results_tmp2 Tryz.results28 _ _ _) rfl ?_
    exact ⟨HGF.out, .inl ⟨HGN.out, _, rfl⟩⟩
end Go.Proofs.YtijeogdnjeamaaaGreatDoor
