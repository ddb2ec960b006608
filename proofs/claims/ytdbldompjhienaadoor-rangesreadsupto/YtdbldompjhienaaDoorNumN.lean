/-
  The document's Number: by its contract.
-/
import Derived.Test.YtdbldompjhienaaDoorNumT
namespace Go.Proofs.YtdbldompjhienaaDoor
open Go.RowKit

set_option maxHeartbeats 400000 in
theorem rNumber_any (s : ByteArray) (w : World) (hs : s.size ≤ maxLen) :
    Calls Tryd.prog 49 #[.string s] w fun e w' => e = .returned (.tuple #[.int .i64 (Tx.num 10 s.data.toList).1, .int .i64 (Tx.num 10 s.data.toList).2]) ∧ Below w.heap.size w w' := by
  go_enter Tryd.func49, Tryd.ntmps49
  go_wp2_with fail
  refine (rnumber_10 s _ hs).mono ?_
  rintro e w1 ⟨rfl, hb1⟩
  go_wp2
  go_ret2
  exact ⟨rfl, hb1⟩

end Go.Proofs.YtdbldompjhienaaDoor
