/-
  The document's table: static, by its contract.
-/
import Derived.Test.YtmkkhfkfjmfdcaaTabM

namespace Go.Proofs.Ytmkkhfkfjmfdcaa
open Go.RowKit

def statCells : Array Value := (Tb.cells Tb.stat).toArray

end Go.Proofs.Ytmkkhfkfjmfdcaa
