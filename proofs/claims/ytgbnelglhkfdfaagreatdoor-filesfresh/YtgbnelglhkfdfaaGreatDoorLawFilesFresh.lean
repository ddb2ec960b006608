/-
  The law FilesFresh: by its contract.
-/
import Derived.Test.YtgbnelglhkfdfaaGreatDoorFtN
import Derived.Test.YtgbnelglhkfdfaaGreatDoorFtQ
namespace Go.Proofs.YtgbnelglhkfdfaaGreatDoor
open Go.RowKit

theorem filesFresh_is (y : ByteArray) (t q : Int) (y2 : ByteArray) (t2 q2 : Int) (hy : y.size ≤ 140737488425328) (hy2 : y2.size ≤ 140737488425328) (w : World) (hT : TB19 w) :
    Calls Tryz.prog 6 #[.agg (flC y t q), .agg (flC y2 t2 q2)] w fun e w' => e = .returned (.bool true) ∧ Below w.heap.size w w' := filesFresh_any cansC19 y t q y2 t2 q2 hy hy2 w hT

end Go.Proofs.YtgbnelglhkfdfaaGreatDoor
