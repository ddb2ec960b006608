/-
  Lower, Same and the document's Lower, Same, each by its contract.
-/
import Derived.Test.YtfdjimjiikeciaaGreatDoorBytes
import Derived.Test.YtfdjimjiikeciaaGreatDoorRows2
namespace Go.Proofs.YtfdjimjiikeciaaGreatDoor
open Go.RowKit

theorem ret_str' {a b : ByteArray} (h : a = b) : Ending.returned (.string a) = .returned (.string b) := by rw [h]

end Go.Proofs.YtfdjimjiikeciaaGreatDoor
