/-
  The document's Length: by its contract, out of Number's.
-/
import Derived.Test.YtcljepppdljnlabDoorMsE
import Derived.Test.YtcljepppdljnlabDoorMsPp
import Derived.Test.YtcljepppdljnlabDoorPureNum
namespace Go.Proofs.YtcljepppdljnlabDoor
open Go.RowKit

end Go.Proofs.YtcljepppdljnlabDoor
