/-
  Lower, Same and the document's Lower, Same, each by its contract.
-/
import Derived.Test.YtbnldneejbbhhaaDoorBytes
import Derived.Test.YtbnldneejbbhhaaDoorRows2
namespace Go.Proofs.YtbnldneejbbhhaaDoor
open Go.RowKit

theorem ret_str' {a b : ByteArray} (h : a = b) : Ending.returned (.string a) = .returned (.string b) := by rw [h]

end Go.Proofs.YtbnldneejbbhhaaDoor
