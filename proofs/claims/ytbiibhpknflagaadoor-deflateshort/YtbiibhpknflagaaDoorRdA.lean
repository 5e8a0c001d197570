/- THE STREAM THAT IS READ: what its block holds; 'readByte'. -/
import Derived.Test.YtbiibhpknflagaaDoorHelpC
namespace Go.Proofs.YtbiibhpknflagaaDoor
open Go.RowKit Plain

/-- What stays while a stream is read: its block, where its bytes lie, the bytes, how many may come out, the window. -/
structure Env where
  S : Nat
  ib : Nat
  io : Nat
  cap : Nat
  zs : List Int
  most : Int
  win : Int

/-- The stream's seven cells. -/
structure Str (w : World) (E : Env) (nx hold held : Nat) (v : Value) : Prop where
  c0 : w.cell? ⟨E.S, 0, none⟩ = some (.slice (some ⟨E.ib, E.io, none⟩) E.zs.length E.cap)
  c1 : w.cell? ⟨E.S, 1, none⟩ = some (.int .i64 nx)
  c2 : w.cell? ⟨E.S, 2, none⟩ = some (.int .i64 hold)
  c3 : w.cell? ⟨E.S, 3, none⟩ = some (.int .i64 held)
  c4 : w.cell? ⟨E.S, 4, none⟩ = some v
  c5 : w.cell? ⟨E.S, 5, none⟩ = some (.int .i64 E.most)
  c6 : w.cell? ⟨E.S, 6, none⟩ = some (.int .i64 E.win)
  fz : ∀ i, w.frozen? ⟨E.S, i, none⟩ = false
  src : At w E.ib E.io E.zs
  ibS : E.ib ≠ E.S
  ibv : some E.ib ≠ v.ownBlock
  ibl : E.ib < w.heap.size
  Sl : E.S < w.heap.size
  Sv : some E.S ≠ v.ownBlock

def errv (k : Int) : List PanicEntry := [{ v := .iface 32 (.int .i64 k), recovered := false }]

/-- WHAT A STEP OF THE READING LEAVES ALONE: every old block but the stream's own and the row of what was put out; that row is the same or a new one. -/
structure Kept (S : Nat) (v v' : Value) (w w' : World) : Prop where
  os : w'.os = w.os
  tape : w'.tape = w.tape
  output : w'.output = w.output
  size : w.heap.size ≤ w'.heap.size
  block : ∀ k, k < w.heap.size → k ≠ S → some k ≠ v.ownBlock → w'.heap[k]? = w.heap[k]?
  row : v'.ownBlock = v.ownBlock ∨ ∀ k, v'.ownBlock = some k → w.heap.size ≤ k

theorem Kept.refl (S : Nat) (v : Value) (w : World) : Kept S v v w w := ⟨rfl, rfl, rfl, Nat.le_refl _, fun _ _ _ _ => rfl, .inl rfl⟩
theorem Kept.trans {S : Nat} {v v' v'' : Value} {w w' w'' : World} (h : Kept S v v' w w') (k : Kept S v' v'' w' w'') : Kept S v v'' w w'' where
  os := k.os.trans h.os
  tape := k.tape.trans h.tape
  output := k.output.trans h.output
  size := Nat.le_trans h.size k.size
  block i h1 h2 h3 := by
    rw [k.block i (by have := h.size; omega) h2 ?_, h.block i h1 h2 h3]
    rcases h.row with e | e
    · rw [e]; exact h3
    · intro e'
      have := e i e'.symm
      omega
  row := by
    rcases k.row with e | e
    · rcases h.row with e' | e'
      · exact .inl (e.trans e')
      · exact .inr fun i hi => e' i (e ▸ hi)
    · exact .inr fun i hi => Nat.le_trans h.size (e i hi)
theorem Kept.drewN {S : Nat} {v v' : Value} {w w' : World} (h : Kept S v v' w w') (n : Nat) : Kept S v v' w (w'.drewN n) := ⟨h.os, h.tape, h.output, h.size, h.block, h.row⟩
theorem Kept.drew {S : Nat} {v v' : Value} {w w' : World} (h : Kept S v v' w w') : Kept S v v' w w'.drew := ⟨h.os, h.tape, h.output, h.size, h.block, h.row⟩
theorem Kept.set {S : Nat} {v v' : Value} {w w' : World} (h : Kept S v v' w w') (i : Nat) (u : Value) : Kept S v v' w (w'.setCell ⟨S, i, none⟩ u) :=
  ⟨h.os, h.tape, h.output, by simpa [World.setCell] using h.size, fun k h1 h2 h3 => (Below.heap_setCell w' _ u k h2).trans (h.block k h1 h2 h3), h.row⟩
theorem Kept.alloc {S : Nat} {v v' : Value} {w w' : World} (h : Kept S v v' w w') (o : Obj) : Kept S v v' w (w'.alloc o) :=
  ⟨h.os, h.tape, h.output, by have := h.size; simp; omega, fun k h1 h2 h3 => (Below.heap_alloc w' o k (by have := h.size; omega)).trans (h.block k h1 h2 h3), h.row⟩
theorem Kept.cell {S : Nat} {v v' : Value} {w w' : World} (h : Kept S v v' w w') {p : Addr} (h1 : p.block < w.heap.size) (h2 : p.block ≠ S) (h3 : some p.block ≠ v.ownBlock) : w'.cell? p = w.cell? p :=
  World.cell?_of_block (w := w) (h.block _ h1 h2 h3)
theorem Kept.frozen {S : Nat} {v v' : Value} {w w' : World} (h : Kept S v v' w w') {p : Addr} (h1 : p.block < w.heap.size) (h2 : p.block ≠ S) (h3 : some p.block ≠ v.ownBlock) : w'.frozen? p = w.frozen? p :=
  World.frozen?_of_block (w := w) (h.block _ h1 h2 h3)
/-- What is kept off the row of what was put out, is kept off it later. -/
theorem Kept.off {S : Nat} {v v' : Value} {w w' : World} (h : Kept S v v' w w') {k : Nat} (h1 : k < w.heap.size) (h3 : some k ≠ v.ownBlock) : some k ≠ v'.ownBlock := by
  rcases h.row with e | e
  · rw [e]; exact h3
  · intro e'
    have := e k e'.symm
    omega
theorem Kept.below {S B : Nat} {v v' : Value} {w0 w w' : World} (h : Kept S v v' w w') (hb : Below B w0 w) (hB : B ≤ w0.heap.size) (hS : B ≤ S) (hv : ∀ k, v.ownBlock = some k → B ≤ k) : Below B w0 w' :=
  hb.trans ⟨h.os, h.tape, h.output, h.size, fun k hk => h.block k (by have := hb.size; omega) (by omega) (fun e => by have := hv k e.symm; omega)⟩

/-- What leaves every old block but the stream's alone, leaves it alone whatever the row of what was put out. -/
theorem Kept.weak {S : Nat} {w w' : World} (h : Kept S (.bool true) (.bool true) w w') (v : Value) : Kept S v v w w' :=
  ⟨h.os, h.tape, h.output, h.size, fun k h1 h2 _ => h.block k h1 h2 (by simp [Value.ownBlock]), .inl rfl⟩
theorem Kept.all {S : Nat} {w w' : World} (h : Kept S (.bool true) (.bool true) w w') (k : Nat) (h1 : k < w.heap.size) (h2 : k ≠ S) : w'.heap[k]? = w.heap[k]? := h.block k h1 h2 (by simp [Value.ownBlock])
theorem Kept.owns {S : Nat} {w w' : World} (h : Kept S (.bool true) (.bool true) w w') {B : Nat} {e : TypeId} {s : Nat} {v : Value} {n : Nat} {xs : List Value} (ho : w.ownsRow B e s v n xs) (hS : some S ≠ v.ownBlock) : w'.ownsRow B e s v n xs := by
  refine ho.kept (row := some S) ⟨h.os, h.tape, h.output, h.size, fun k h1 h2 => h.all k h1 (fun e => h2 (by rw [e]))⟩ (.inr (Ne.symm hS))

theorem Str.drewN {w : World} {E : Env} {nx hold held : Nat} {v : Value} (h : Str w E nx hold held v) (n : Nat) : Str (w.drewN n) E nx hold held v :=
  ⟨h.c0, h.c1, h.c2, h.c3, h.c4, h.c5, h.c6, h.fz, h.src, h.ibS, h.ibv, h.ibl, h.Sl, h.Sv⟩
theorem Str.drew {w : World} {E : Env} {nx hold held : Nat} {v : Value} (h : Str w E nx hold held v) : Str w.drew E nx hold held v :=
  ⟨h.c0, h.c1, h.c2, h.c3, h.c4, h.c5, h.c6, h.fz, h.src, h.ibS, h.ibv, h.ibl, h.Sl, h.Sv⟩
theorem cell_set_ne {w : World} {S i j : Nat} (u : Value) (h : i ≠ j) : (w.setCell ⟨S, i, none⟩ u).cell? ⟨S, j, none⟩ = w.cell? ⟨S, j, none⟩ :=
  World.cell?_setCell_other _ _ _ _ (by intro e; simp only [Addr.mk.injEq] at e; omega)
theorem src_set {w : World} {ib io S i : Nat} {zs : List Int} (h : At w ib io zs) (hn : ib ≠ S) (u : Value) : At (w.setCell ⟨S, i, none⟩ u) ib io zs := fun j hj => by
  rw [World.cell?_setCell_other _ _ _ _ (by intro e; simp only [Addr.mk.injEq] at e; omega)]; exact h j hj
theorem Str.set1 {w : World} {E : Env} {nx hold held : Nat} {v : Value} (h : Str w E nx hold held v) {m : Int} (n : Nat) (hm : m = n) : Str (w.setCell ⟨E.S, 1, none⟩ (.int .i64 m)) E n hold held v :=
  ⟨(cell_set_ne _ (by omega)).trans h.c0, by rw [hm]; exact World.cell?_setCell_same _ _ _ h.c1, (cell_set_ne _ (by omega)).trans h.c2, (cell_set_ne _ (by omega)).trans h.c3, (cell_set_ne _ (by omega)).trans h.c4, (cell_set_ne _ (by omega)).trans h.c5, (cell_set_ne _ (by omega)).trans h.c6,
   fun i => by rw [World.frozen?_setCell]; exact h.fz i, src_set h.src h.ibS _, h.ibS, h.ibv, by simpa [World.setCell] using h.ibl, by simpa [World.setCell] using h.Sl, h.Sv⟩
theorem Str.set2 {w : World} {E : Env} {nx hold held : Nat} {v : Value} (h : Str w E nx hold held v) {m : Int} (n : Nat) (hm : m = n) : Str (w.setCell ⟨E.S, 2, none⟩ (.int .i64 m)) E nx n held v :=
  ⟨(cell_set_ne _ (by omega)).trans h.c0, (cell_set_ne _ (by omega)).trans h.c1, by rw [hm]; exact World.cell?_setCell_same _ _ _ h.c2, (cell_set_ne _ (by omega)).trans h.c3, (cell_set_ne _ (by omega)).trans h.c4, (cell_set_ne _ (by omega)).trans h.c5, (cell_set_ne _ (by omega)).trans h.c6,
   fun i => by rw [World.frozen?_setCell]; exact h.fz i, src_set h.src h.ibS _, h.ibS, h.ibv, by simpa [World.setCell] using h.ibl, by simpa [World.setCell] using h.Sl, h.Sv⟩
theorem Str.set3 {w : World} {E : Env} {nx hold held : Nat} {v : Value} (h : Str w E nx hold held v) {m : Int} (n : Nat) (hm : m = n) : Str (w.setCell ⟨E.S, 3, none⟩ (.int .i64 m)) E nx hold n v :=
  ⟨(cell_set_ne _ (by omega)).trans h.c0, (cell_set_ne _ (by omega)).trans h.c1, (cell_set_ne _ (by omega)).trans h.c2, by rw [hm]; exact World.cell?_setCell_same _ _ _ h.c3, (cell_set_ne _ (by omega)).trans h.c4, (cell_set_ne _ (by omega)).trans h.c5, (cell_set_ne _ (by omega)).trans h.c6,
   fun i => by rw [World.frozen?_setCell]; exact h.fz i, src_set h.src h.ibS _, h.ibS, h.ibv, by simpa [World.setCell] using h.ibl, by simpa [World.setCell] using h.Sl, h.Sv⟩

theorem ret_i64 {a b : Int} (h : a = b) : Ending.returned (.int .i64 a) = .returned (.int .i64 b) := by rw [h]

set_option maxHeartbeats 400000 in
theorem readByte_bad (E : Env) (hold held : Nat) (v : Value) (w : World) (h : Str w E E.zs.length hold held v) :
    Calls Tryd.prog 27 #[.pointer (some ⟨E.S, 0, none⟩)] w fun e w' => e = .panicked (errv 10) ∧ Kept E.S (.bool true) (.bool true) w w' := by
  have HK : Hid (Kept E.S (.bool true) (.bool true) w w) := Kept.refl _ _ _
  obtain ⟨c0, c1, c2, c3, c4, c5, c6, fz, src, ibS, ibv, ibl, Sl, Sv⟩ := h
  go_enter Tryd.func27, Tryd.ntmps27
  go_wp2
  go_quiet (fail)
  go_wp2
  exact ⟨rfl, rfl, HK.out.drewN _⟩

set_option maxHeartbeats 400000 in
theorem readByte_ok (E : Env) (nx hold held : Nat) (v : Value) (w : World) (hz : IsB E.zs) (_hl : E.zs.length ≤ 400000) (hn : nx < E.zs.length) (h : Str w E nx hold held v) :
    Calls Tryd.prog 27 #[.pointer (some ⟨E.S, 0, none⟩)] w fun e w' => e = .returned (.int .i64 E.zs[nx]) ∧ Str w' E (nx + 1) hold held v ∧ Kept E.S (.bool true) (.bool true) w w' := by
  have HH : Hid (Str w E nx hold held v) := h
  have HK : Hid (Kept E.S (.bool true) (.bool true) w w) := Kept.refl _ _ _
  obtain ⟨c0, c1, c2, c3, c4, c5, c6, fz, src, ibS, ibv, ibl, Sl, Sv⟩ := h
  have hcell := src nx hn
  obtain ⟨hx1, hx2⟩ := hz.at nx hn
  have f1 := fz 1
  have hne : ((nx : Int) == (E.zs.length : Int)) = false := by simp; omega
  go_enter Tryd.func27, Tryd.ntmps27
  go_wp2
  go_quiet (fail)
  go_wp2
  go_quiet (fail)
  go_wp2
  go_ret
  exact ⟨rfl, ((HH.out.drewN _).set1 _ (by omega)).drewN _, ((HK.out.drewN _).set _ _).drewN _⟩

set_option maxHeartbeats 400000 in
theorem skipBits_any (E : Env) (nx hold held : Nat) (v : Value) (w : World) (h : Str w E nx hold held v) :
    Calls Tryd.prog 51 #[.pointer (some ⟨E.S, 0, none⟩)] w fun e w' => e = .returned (.tuple #[]) ∧ Str w' E nx 0 0 v ∧ Kept E.S (.bool true) (.bool true) w w' := by
  have HH : Hid (Str w E nx hold held v) := h
  have HK : Hid (Kept E.S (.bool true) (.bool true) w w) := Kept.refl _ _ _
  obtain ⟨c0, c1, c2, c3, c4, c5, c6, fz, src, ibS, ibv, ibl, Sl, Sv⟩ := h
  have f2 := fz 2
  have f3 := fz 3
  go_enter Tryd.func51, Tryd.ntmps51
  go_wp2
  go_end0
  exact ⟨rfl, (HH.out.set2 0 rfl).set3 0 rfl, (HK.out.set _ _).set _ _⟩
end Go.Proofs.YtbiibhpknflagaaDoor
