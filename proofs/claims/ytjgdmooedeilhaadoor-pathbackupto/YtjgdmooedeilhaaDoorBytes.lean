/-
  The functions on one byte, each by its contract.
-/
import Derived.Test.YtjgdmooedeilhaaDoorProg
import Derived.Test.YtjgdmooedeilhaaDoorPure
import Derived.WalkKit
import Derived.WalkSpells
namespace Go.Proofs.YtjgdmooedeilhaaDoor
open Go.RowKit

theorem ret_bool {a b : Bool} (h : a = b) : Ending.returned (.bool a) = .returned (.bool b) := by rw [h]
theorem ret_int {k : IntKind} {a b : Int} (h : a = b) : Ending.returned (.int k a) = .returned (.int k b) := by rw [h]

end Go.Proofs.YtjgdmooedeilhaaDoor
