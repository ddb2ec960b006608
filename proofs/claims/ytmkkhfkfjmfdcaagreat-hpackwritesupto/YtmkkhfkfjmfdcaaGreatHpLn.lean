/-
  Fields that came in; the laws' own weight and lent of them: by their contracts.
-/
import Derived.Test.YtmkkhfkfjmfdcaaGreatHpWt
import Derived.Laws.AppendOwnNone
namespace Go.Proofs.YtmkkhfkfjmfdcaaGreat
open Go.RowKit

/-- Fields in memory, wherever. -/
def FS (w : World) (v : Value) (l : List (List UInt8 × List UInt8)) : Prop :=
  (v = .slice none 0 0 ∧ l = []) ∨ ∃ a cap, v = .slice (some a) l.length cap ∧ ∀ j u, (Tb.cells l)[j]? = some u → (a.add j).block < w.heap.size ∧ w.cell? (a.add j) = some u
theorem FS.below {B : Nat} {w w' : World} {v : Value} {l : List (List UInt8 × List UInt8)} (h : FS w v l) (hb : Below B w w') (hB : w.heap.size ≤ B) : FS w' v l := by
  rcases h with h | ⟨a, cap, hv, hc⟩
  · exact .inl h
  · exact .inr ⟨a, cap, hv, fun j u hj => ⟨Nat.lt_of_lt_of_le (hc j u hj).1 hb.size, (hb.cell (Nat.lt_of_lt_of_le (hc j u hj).1 hB)).trans (hc j u hj).2⟩⟩
theorem FS.shape {w : World} {v : Value} {l : List (List UInt8 × List UInt8)} (h : FS w v l) : ∃ ao cap, v = .slice ao l.length cap := by
  rcases h with ⟨h, rfl⟩ | ⟨a, cap, h, _⟩
  · exact ⟨none, 0, h⟩
  · exact ⟨some a, cap, h⟩
theorem FS.two {w : World} {ao : Option Addr} {n cap : Nat} {l : List (List UInt8 × List UInt8)} (h : FS w (.slice ao n cap) l) (i : Nat) (f : List UInt8 × List UInt8) (hf : l[i]? = some f) : ∃ a, ao = some a ∧ w.cell? (a.add (i * 2)) = some (.string ⟨f.1.toArray⟩) ∧ w.cell? ⟨(a.add (i * 2)).block, (a.add (i * 2)).off + 1, none⟩ = some (.string ⟨f.2.toArray⟩) := by
  rcases h with ⟨_, rfl⟩ | ⟨a, cap', hv, hc⟩
  · simp at hf
  · injection hv with h1 _ _
    obtain ⟨e0, e1⟩ := Tb.cells_at _ _ _ hf
    refine ⟨a, h1, (hc _ _ e0).2, ?_⟩
    have := (hc _ _ e1).2
    rw [← Addr.add_add] at this
    simpa [Addr.add] using this

end Go.Proofs.YtmkkhfkfjmfdcaaGreat
