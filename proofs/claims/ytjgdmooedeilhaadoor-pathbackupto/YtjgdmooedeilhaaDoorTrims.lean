/-
  Trim, Value and the document's Trim, Value, each by its contract.
-/
import Derived.Test.YtjgdmooedeilhaaDoorBytes
import Derived.Test.YtjgdmooedeilhaaDoorLists
namespace Go.Proofs.YtjgdmooedeilhaaDoor
open Go.RowKit

theorem ret_str {a b : ByteArray} (h : a = b) : Ending.returned (.string a) = .returned (.string b) := by rw [h]

end Go.Proofs.YtjgdmooedeilhaaDoor
