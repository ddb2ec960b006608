/-
  The document's plain: by its contract.
-/
import Derived.Test.YtbpdhcfmdkmoiaaDoorMsD
import Derived.Test.YtbpdhcfmdkmoiaaDoorTrims
import Derived.Deep.CutRange
namespace Go.Proofs.YtbpdhcfmdkmoiaaDoor
open Go.RowKit

end Go.Proofs.YtbpdhcfmdkmoiaaDoor
