/-
  The document's table: static, by its contract.
-/
import Derived.Test.YtjpgnifogacpcaaTabM

namespace Go.Proofs.Ytjpgnifogacpcaa
open Go.RowKit

def statCells : Array Value := (Tb.cells Tb.stat).toArray

set_option maxHeartbeats 4000000 in
set_option maxRecDepth 100000 in
theorem rstatic_any (w : World) :
    Calls Try.prog 47 #[] w fun e w' => e = .returned (.slice (some ⟨w.heap.size, 0, none⟩) 61 61) ∧ w' = w.alloc (.cells statCells 32) := by
  go_enter Try.func47, Try.ntmps47
  go_wp2
  go_ret
  exact ⟨rfl, rfl⟩

end Go.Proofs.Ytjpgnifogacpcaa
