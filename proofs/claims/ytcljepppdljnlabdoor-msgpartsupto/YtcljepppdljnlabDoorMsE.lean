/-
  The document's plain: by its contract.
-/
import Derived.Test.YtcljepppdljnlabDoorMsD
import Derived.Test.YtcljepppdljnlabDoorTrims
import Derived.Deep.CutRange
namespace Go.Proofs.YtcljepppdljnlabDoor
open Go.RowKit

end Go.Proofs.YtcljepppdljnlabDoor
