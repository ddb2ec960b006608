/-
  What the rows of this seat stand on.
-/
import Derived.Test.YtfdjimjiikeciaaGreatDoorRtO
import Derived.Test.YtfdjimjiikeciaaGreatDoorRows
import Derived.Deep.Slices
import Derived.Deep.Strs
import Derived.RowKit
import Derived.ProofKit
import Derived.OpenShut
import Derived.LaidMore
import Derived.Stop.LaidErr
import Derived.Deep.DeepHandedRow
import Derived.Lib.LaidTab
import Derived.Lib.ItoaNum
import Derived.Lib.SmallJoins
namespace Go.Proofs.YtfdjimjiikeciaaGreatDoor

end Go.Proofs.YtfdjimjiikeciaaGreatDoor
