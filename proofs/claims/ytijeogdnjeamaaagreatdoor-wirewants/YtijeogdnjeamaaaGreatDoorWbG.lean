/- 'Pkt'. -/
import Derived.Test.YtijeogdnjeamaaaGreatDoorWbF
namespace Go.Proofs.YtijeogdnjeamaaaGreatDoor
open Go.RowKit
set_option linter.unusedVariables false
set_option linter.unusedSimpArgs false
/-- A slice of bytes as it lies in a row: where, its room, its bytes. -/
abbrev Hdr := Option Addr × Nat × Str
def encT (t : Hdr) : List Value := [.slice t.1 t.2.2.length t.2.1]
def dT : Hdr := (none, 0, [])
abbrev PT (w : World) (a : Option Addr) (cap : Nat) (ts : List Hdr) : Prop := Px encT 1 dT w a cap ts
def AT (w : World) (ts : List Hdr) : Prop := ∀ t ∈ ts, PB w t.1 t.2.1 t.2.2
theorem AT.below {w w' : World} {ts : List Hdr} (h : AT w ts) (hb : Below w.heap.size w w') : AT w' ts := fun t ht => (h t ht).below hb
theorem PT.cell {w : World} {b off cap : Nat} {ts : List Hdr} (h : PT w (some ⟨b, off, none⟩) cap ts) (i : Nat) (hi : i < ts.length) : w.cell? ⟨b, off + i, none⟩ = some (.slice (ts.getD i dT).1 (ts.getD i dT).2.2.length (ts.getD i dT).2.1) := by
  obtain ⟨b', off', e1, _, e3⟩ := h.at_ (by omega)
  cases e1
  have := e3 i hi 0 _ rfl
  rw [show off + i * 1 + 0 = off + i by omega] at this
  exact this
theorem pkt_len (s : Str) : (pkt s).length = 4 + s.length := by unfold pkt; rw [List.length_append, szT_len]
def pktB (ts : List Hdr) : Str := ts.flatMap fun t => pkt t.2.2
def okLs (ts : List Hdr) : Prop := ∀ t ∈ ts, t.2.2.length ≤ 1000
theorem Db.b {w w' : World} {B : Nat} (h : Db w) (hb : Below B w w') (hB : B = w.heap.size) : Db w' := by subst hB; exact h.below hb
end Go.Proofs.YtijeogdnjeamaaaGreatDoor
