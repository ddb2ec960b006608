/-
  The document's walk over a header list: by its contract.
-/
import Derived.Test.YtcljepppdljnlabDoorMsF
namespace Go.Proofs.YtcljepppdljnlabDoor
open Go.RowKit

end Go.Proofs.YtcljepppdljnlabDoor
