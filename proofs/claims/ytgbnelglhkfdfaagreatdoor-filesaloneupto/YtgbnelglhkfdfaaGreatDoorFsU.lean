/-
  Files that came in, in memory.
-/
import Derived.Test.YtgbnelglhkfdfaaGreatDoorFtL
namespace Go.Proofs.YtgbnelglhkfdfaaGreatDoor
open Go.RowKit

/-- One entry's cells. -/
def En19At (w : World) (p : Addr) (e : Dk.En) : Prop :=
  w.cell? p = some (.string e.path) ∧ w.cell? ⟨p.block, p.off + 1, none⟩ = some (.string e.body) ∧ w.cell? ⟨p.block, p.off + 2, none⟩ = some (.int .i64 e.time) ∧ w.cell? ⟨p.block, p.off + 3, none⟩ = some (.int .i64 e.seq)
/-- Entries in memory. -/
def EW19 (w : World) (v : Value) (l : List Dk.En) : Prop :=
  (v = .slice none 0 0 ∧ l = []) ∨ ∃ a cap, v = .slice (some a) l.length cap ∧ ∀ i e, l[i]? = some e → (a.add (i * 4)).block < w.heap.size ∧ En19At w (a.add (i * 4)) e
theorem EW19.shape {w : World} {v : Value} {l : List Dk.En} (h : EW19 w v l) : ∃ ao cap, v = .slice ao l.length cap := by
  rcases h with ⟨h, rfl⟩ | ⟨a, cap, h, _⟩
  · exact ⟨none, 0, h⟩
  · exact ⟨some a, cap, h⟩
theorem EW19.at {w w' : World} {ao : Option Addr} {n cap : Nat} {l : List Dk.En} (h : EW19 w (.slice ao n cap) l) (hb : Below w.heap.size w w') (i : Nat) (e : Dk.En) (he : l[i]? = some e) : ∃ a, ao = some a ∧ En19At w' (a.add (i * 4)) e := by
  rcases h with ⟨_, rfl⟩ | ⟨a, cap', hv, hcs⟩
  · simp at he
  · injection hv with h1 _ _
    obtain ⟨hl, c0, c1, c2, c3⟩ := hcs i e he
    refine ⟨a, h1, (hb.cell hl).trans c0, (hb.cell (p := ⟨(a.add (i * 4)).block, (a.add (i * 4)).off + 1, none⟩) hl).trans c1, (hb.cell (p := ⟨(a.add (i * 4)).block, (a.add (i * 4)).off + 2, none⟩) hl).trans c2, (hb.cell (p := ⟨(a.add (i * 4)).block, (a.add (i * 4)).off + 3, none⟩) hl).trans c3⟩

end Go.Proofs.YtgbnelglhkfdfaaGreatDoor
