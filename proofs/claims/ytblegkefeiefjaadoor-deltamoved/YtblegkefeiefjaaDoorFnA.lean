/- The finder in memory. -/
import Derived.Test.YtblegkefeiefjaaDoorMkP
import Derived.Test.YtblegkefeiefjaaDoorSzA
import Derived.Maps.OwnOps
import Derived.Maps.OwnSet
import Derived.Maps.Views
namespace Go.Proofs.YtblegkefeiefjaaDoor
open Go.RowKit Go.Maps
set_option linter.unusedVariables false

/-- A row of elements of so many cells each. -/
def Row (w : World) (b : Nat) (t : TypeId) (sz n cap : Nat) (f : Nat → Nat → Value) : Prop :=
  ∃ cur : Array Value, w.heap[b]? = some (.cells cur t (0, 0)) ∧ cur.size = cap * sz ∧ n ≤ cap ∧ cap ≤ maxLen ∧ ∀ s k, s < n → k < sz → cur[s * sz + k]? = some (f s k)
section
variable {w : World} {b : Nat} {t : TypeId} {sz n cap : Nat} {f : Nat → Nat → Value}
theorem Row.cell (h : Row w b t sz n cap f) {s k : Nat} (hs : s < n) (hk : k < sz) : w.cell? ⟨b, s * sz + k, none⟩ = some (f s k) := by
  obtain ⟨cur, h1, h2, h3, h4, h5⟩ := h
  simp [World.cell?, h1, h5 s k hs hk]
theorem Row.frozen (h : Row w b t sz n cap f) (i : Nat) : w.frozen? ⟨b, i, none⟩ = false := by
  obtain ⟨cur, h1, _⟩ := h
  simp [World.frozen?, h1]
theorem Row.lt (h : Row w b t sz n cap f) : b < w.heap.size := by
  obtain ⟨cur, h1, _⟩ := h
  exact (Array.getElem?_eq_some_iff.1 h1).1
theorem Row.le (h : Row w b t sz n cap f) : n ≤ cap ∧ cap ≤ maxLen := by
  obtain ⟨cur, h1, h2, h3, h4, h5⟩ := h
  exact ⟨h3, h4⟩
theorem Row.kept (h : Row w b t sz n cap f) {w' : World} (hb : w'.heap[b]? = w.heap[b]?) : Row w' b t sz n cap f := by
  obtain ⟨cur, h1, h2⟩ := h
  exact ⟨cur, hb.trans h1, h2⟩
theorem Row.congr (h : Row w b t sz n cap f) {f' : Nat → Nat → Value} (hf : ∀ s k, s < n → k < sz → f s k = f' s k) : Row w b t sz n cap f' := by
  obtain ⟨cur, h1, h2, h3, h4, h5⟩ := h
  exact ⟨cur, h1, h2, h3, h4, fun s k hs hk => by rw [h5 s k hs hk, hf s k hs hk]⟩
theorem place_inj {sz s k s' k' : Nat} (hk : k < sz) (hk' : k' < sz) (h : s * sz + k = s' * sz + k') : s = s' ∧ k = k' := by
  have h1 : (s * sz + k) / sz = s := by rw [Nat.mul_comm, Nat.mul_add_div (by omega), Nat.div_eq_of_lt hk]; rfl
  have h2 : (s' * sz + k') / sz = s' := by rw [Nat.mul_comm, Nat.mul_add_div (by omega), Nat.div_eq_of_lt hk']; rfl
  have h3 : s = s' := by rw [← h1, ← h2, h]
  subst h3
  exact ⟨rfl, by omega⟩
theorem heap_set (w : World) (b i : Nat) (v : Value) {cur : Array Value} {t : TypeId} {fr : Nat × Nat} (h : w.heap[b]? = some (.cells cur t fr)) : (w.setCell ⟨b, i, none⟩ v).heap[b]? = some (.cells (cur.setIfInBounds i v) t fr) := by
  obtain ⟨hlt, hk⟩ := Array.getElem?_eq_some_iff.1 h
  show (w.heap.modify b _)[b]? = _
  rw [Array.getElem?_eq_getElem (by rw [Array.size_modify]; exact hlt), Array.getElem_modify_self, hk]
  rfl
theorem Row.set (h : Row w b t sz n cap f) {s k : Nat} (hs : s < n) (hk : k < sz) (v : Value) : Row (w.setCell ⟨b, s * sz + k, none⟩ v) b t sz n cap (fun s' k' => if s' = s ∧ k' = k then v else f s' k') := by
  obtain ⟨cur, h1, h2, h3, h4, h5⟩ := h
  refine ⟨_, heap_set w b _ v h1, by simp [h2], h3, h4, fun s' k' hs' hk' => ?_⟩
  by_cases hq : s' = s ∧ k' = k
  · obtain ⟨rfl, rfl⟩ := hq
    have := h5 s' k' hs' hk'
    obtain ⟨hlt, _⟩ := Array.getElem?_eq_some_iff.1 this
    simp [hlt]
  · rw [Array.getElem?_setIfInBounds_ne (fun e => hq (by obtain ⟨a, b⟩ := place_inj hk hk' e; exact ⟨a.symm, b.symm⟩)), h5 s' k' hs' hk']
    simp [hq]
/-- Its cells, as a list. -/
def rowL (f : Nat → Nat → Value) (n sz : Nat) : List Value := (List.range (n * sz)).map fun i => f (i / sz) (i % sz)
theorem rowL_succ (f : Nat → Nat → Value) (n sz : Nat) (h : 0 < sz) : rowL f (n + 1) sz = rowL f n sz ++ (List.range sz).map (f n) := by
  unfold rowL
  rw [Nat.add_mul, Nat.one_mul, List.range_add, List.map_append, List.map_map]
  congr 1
  refine List.map_congr_left fun k hk => ?_
  have hk' := List.mem_range.1 hk
  show f ((n * sz + k) / sz) ((n * sz + k) % sz) = f n k
  rw [Nat.mul_comm, Nat.mul_add_div h, Nat.div_eq_of_lt hk', Nat.mul_add_mod, Nat.mod_eq_of_lt hk']
  rfl
theorem Row.owns (h : Row w b t sz n cap f) (hsz : 0 < sz) {B : Nat} (hB : B ≤ b) : w.ownsRow B t sz (.slice (some ⟨b, 0, none⟩) n cap) n (rowL f n sz) := by
  obtain ⟨cur, h1, h2, h3, h4, h5⟩ := h
  refine ⟨by simp [rowL], .inr ⟨b, cap, cur, rfl, hB, h1, h3, h4, h2, ?_⟩⟩
  have hle : n * sz ≤ cap * sz := Nat.mul_le_mul_right _ h3
  refine List.ext_getElem? fun i => ?_
  by_cases hi : i < n * sz
  · rw [List.getElem?_take_of_lt hi]
    have e : i = (i / sz) * sz + i % sz := by rw [Nat.mul_comm]; exact (Nat.div_add_mod i sz).symm
    have := h5 (i / sz) (i % sz) ((Nat.div_lt_iff_lt_mul hsz).2 hi) (Nat.mod_lt _ hsz)
    rw [← e] at this
    rw [Array.getElem?_toList, this]
    simp [rowL, hi]
  · rw [List.getElem?_eq_none (by simp; omega), List.getElem?_eq_none (by simp [rowL]; omega)]
theorem Row.of_owns {B : Nat} {v : Value} {a : Option Addr} (hn : 0 < n) (h : w.ownsRow B t sz (.slice a n cap) n (rowL f n sz)) : ∃ b, a = some ⟨b, 0, none⟩ ∧ B ≤ b ∧ Row w b t sz n cap f := by
  obtain ⟨_, ⟨h1, h2⟩ | ⟨g, cap', cur, hv, h1, h2, h3, h4, h5, h6⟩⟩ := h
  · omega
  · simp only [Value.slice.injEq] at hv
    obtain ⟨rfl, _, rfl⟩ := hv
    refine ⟨g, rfl, h1, cur, h2, h5, h3, h4, fun s k hs hk => ?_⟩
    have hlt : s * sz + k < n * sz := by
      have : (s + 1) * sz ≤ n * sz := Nat.mul_le_mul_right _ (by omega)
      rw [Nat.add_mul] at this; omega
    have e : (cur.toList.take (n * sz))[s * sz + k]? = (rowL f n sz)[s * sz + k]? := by rw [h6]
    rw [List.getElem?_take_of_lt hlt, Array.getElem?_toList] at e
    rw [e]
    simp only [rowL, List.getElem?_map, List.getElem?_range hlt, Option.map_some]
    rw [show (s * sz + k) / sz = s by rw [Nat.mul_comm, Nat.mul_add_div (by omega), Nat.div_eq_of_lt hk]; rfl, show (s * sz + k) % sz = k by rw [Nat.mul_comm, Nat.mul_add_mod, Nat.mod_eq_of_lt hk]]
end
/-- A finder, as it is: where its parts lie, and what they hold. -/
structure Fn where
  (sb eb mb cs ce N K last mn : Nat)
  (lon en hd : Nat → Nat)
  (sh : Nat → Option Nat)
  (to nx by_ src : Nat → Nat)
  (m : Nat → Nat → Nat)
def shI : Option Nat → Int
  | none => -1
  | some p => (p : Int)
def Fn.stv (F : Fn) (s k : Nat) : Value := match k with
  | 0 => .int .i32 (F.lon s)
  | 1 => .int .i32 (shI (F.sh s))
  | 2 => .int .i32 (F.en s)
  | _ => .int .i32 (F.hd s)
def Fn.edv (F : Fn) (e k : Nat) : Value := match k with
  | 0 => .int .i32 (F.to e)
  | 1 => .int .i32 (F.nx e)
  | _ => .int .u8 (F.by_ e)
def Fn.obj (F : Fn) : Obj := .cells #[.slice (some ⟨F.sb, 0, none⟩) F.N F.cs, .slice (some ⟨F.eb, 0, none⟩) F.K F.ce, .map (some F.mb), .int .i32 F.last] 101 (0, 0)
def kyL (s x : Nat) : Lit := .int .u32 ((s * 256 + x : Nat) : Int)
/-- A map from states and bytes to edges. -/
def MapR (w : World) (mb n : Nat) (m : Nat → Nat → Nat) : Prop :=
  ∃ D : DataW Unit, w.ownsMap Tryd.prog 111 (plainElem Tryd.prog 21) mb n D ∧ ∀ s x, s < 16777216 → x < 256 → D.atKey (kyL s x) (.lit (.int .i32 0)) = .lit (.int .i32 (m s x))
structure Rep (B : Nat) (w : World) (g : Nat) (F : Fn) : Prop where
  fin : w.heap[g]? = some F.obj
  st : Row w F.sb 103 4 F.N F.cs F.stv
  ed : Row w F.eb 107 3 F.K F.ce F.edv
  mp : MapR w F.mb F.mn F.m
  Bg : B ≤ g
  Bs : B ≤ F.sb
  Be : B ≤ F.eb
  Bm : B ≤ F.mb
  csl : F.cs ≤ 300000
  mnl : F.mn ≤ F.K
theorem Rep.c0 {B : Nat} {w : World} {g : Nat} {F : Fn} (h : Rep B w g F) : w.cell? ⟨g, 0, none⟩ = some (.slice (some ⟨F.sb, 0, none⟩) F.N F.cs) := by simp [World.cell?, h.fin, Fn.obj]
theorem Rep.c1 {B : Nat} {w : World} {g : Nat} {F : Fn} (h : Rep B w g F) : w.cell? ⟨g, 1, none⟩ = some (.slice (some ⟨F.eb, 0, none⟩) F.K F.ce) := by simp [World.cell?, h.fin, Fn.obj]
theorem Rep.c2 {B : Nat} {w : World} {g : Nat} {F : Fn} (h : Rep B w g F) : w.cell? ⟨g, 2, none⟩ = some (.map (some F.mb)) := by simp [World.cell?, h.fin, Fn.obj]
theorem Rep.c3 {B : Nat} {w : World} {g : Nat} {F : Fn} (h : Rep B w g F) : w.cell? ⟨g, 3, none⟩ = some (.int .i32 F.last) := by simp [World.cell?, h.fin, Fn.obj]
theorem Rep.fz {B : Nat} {w : World} {g : Nat} {F : Fn} (h : Rep B w g F) (i : Nat) : w.frozen? ⟨g, i, none⟩ = false := by simp [World.frozen?, h.fin, Fn.obj]
theorem Rep.glt {B : Nat} {w : World} {g : Nat} {F : Fn} (h : Rep B w g F) : g < w.heap.size := (Array.getElem?_eq_some_iff.1 h.fin).1
theorem Rep.ap {B : Nat} {w : World} {g : Nat} {F : Fn} (h : Rep B w g F) : g ≠ F.sb ∧ g ≠ F.eb ∧ g ≠ F.mb ∧ F.sb ≠ F.eb ∧ F.sb ≠ F.mb ∧ F.eb ≠ F.mb := by
  obtain ⟨c1, a1, _⟩ := h.st
  obtain ⟨c2, a2, _⟩ := h.ed
  obtain ⟨D, ⟨es, ck, a3, _⟩, _⟩ := h.mp
  have a0 := h.fin
  refine ⟨fun e => ?_, fun e => ?_, fun e => ?_, fun e => ?_, fun e => ?_, fun e => ?_⟩
  · rw [e, a1] at a0; simp [Fn.obj] at a0
  · rw [e, a2] at a0; simp [Fn.obj] at a0
  · rw [e, a3] at a0; simp [Fn.obj] at a0
  · rw [e, a2] at a1; simp at a1
  · rw [e, a3] at a1; simp at a1
  · rw [e, a3] at a2; simp at a2
theorem MapR.lt {w : World} {mb n : Nat} {m : Nat → Nat → Nat} (h : MapR w mb n m) : mb < w.heap.size := by
  obtain ⟨D, h1, _⟩ := h
  exact h1.lt
theorem MapR.kept {w w' : World} {mb n : Nat} {m : Nat → Nat → Nat} (h : MapR w mb n m) (hb : w'.heap[mb]? = w.heap[mb]?) : MapR w' mb n m := by
  obtain ⟨D, ⟨es, ck, a, r⟩, h2⟩ := h
  exact ⟨D, ⟨es, ck, hb.trans a, r⟩, h2⟩
theorem MapR.mono {w : World} {mb n n' : Nat} {m : Nat → Nat → Nat} (h : MapR w mb n m) (hn : n ≤ n') : MapR w mb n' m := by
  obtain ⟨D, h1, h2⟩ := h
  exact ⟨D, h1.mono hn, h2⟩
/-- It is kept while its blocks are. -/
theorem Rep.kept {B : Nat} {w w' : World} {g : Nat} {F : Fn} (h : Rep B w g F) (hb : ∀ k, k < w.heap.size → B ≤ k → w'.heap[k]? = w.heap[k]?) : Rep B w' g F :=
  ⟨(hb g h.glt h.Bg).trans h.fin, h.st.kept (hb _ h.st.lt h.Bs), h.ed.kept (hb _ h.ed.lt h.Be), h.mp.kept (hb _ h.mp.lt h.Bm), h.Bg, h.Bs, h.Be, h.Bm, h.csl, h.mnl⟩
theorem Rep.drewN {B : Nat} {w : World} {g : Nat} {F : Fn} (h : Rep B w g F) (n : Nat) : Rep B (w.drewN n) g F := h.kept (fun _ _ _ => rfl)
theorem Rep.low {B B' : Nat} {w : World} {g : Nat} {F : Fn} (h : Rep B w g F) (hB : B' ≤ B) : Rep B' w g F :=
  ⟨h.fin, h.st, h.ed, h.mp, Nat.le_trans hB h.Bg, Nat.le_trans hB h.Bs, Nat.le_trans hB h.Be, Nat.le_trans hB h.Bm, h.csl, h.mnl⟩
end Go.Proofs.YtblegkefeiefjaaDoor
