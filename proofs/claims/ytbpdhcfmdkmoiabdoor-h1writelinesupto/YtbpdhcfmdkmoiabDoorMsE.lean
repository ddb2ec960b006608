/-
  The document's plain: by its contract.
-/
import Derived.Test.YtbpdhcfmdkmoiabDoorMsD
import Derived.Test.YtbpdhcfmdkmoiabDoorTrims
import Derived.Deep.CutRange
namespace Go.Proofs.YtbpdhcfmdkmoiabDoor
open Go.RowKit

end Go.Proofs.YtbpdhcfmdkmoiabDoor
