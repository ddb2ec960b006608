/-
  What both Pieces stand on.
-/
import Derived.Test.YtbpdhcfmdkmoiabDoorHwI
namespace Go.Proofs.YtbpdhcfmdkmoiabDoor
open Go.RowKit

theorem own_one22 (w : World) (x : Value) : (w.alloc (.cells #[x] 9)).ownsRow w.heap.size 9 1 (.slice (some ⟨w.heap.size, 0, none⟩) 1 1) 1 [x] :=
  ⟨rfl, .inr ⟨w.heap.size, 1, #[x], rfl, Nat.le_refl _, heap_alloc_last w _, Nat.le_refl _, by decide, rfl, rfl⟩⟩
theorem one_sC22 (l : List (List UInt8)) : ∀ u ∈ sC l, u.oneCell' = true := fun u hu => by
  obtain ⟨t, _, rfl⟩ := List.mem_map.1 hu
  rfl
/-- What a client's fields may be. -/
structure FO22 (l : List Fd) : Prop where
  len : l.length ≤ 1048576
  sz : ∀ f ∈ l, f.n.size ≤ 140737488355328 ∧ f.v.size ≤ 140737488355328
  lns : (Hw.lns l).length ≤ 70368744177664


end Go.Proofs.YtbpdhcfmdkmoiabDoor
