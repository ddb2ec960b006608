/-
  The law FilesPlain: by its contract.
-/
import Derived.Test.YtgbnelglhkfdfaaGreatDoorFtN
import Derived.Test.YtgbnelglhkfdfaaGreatDoorFtQ
namespace Go.Proofs.YtgbnelglhkfdfaaGreatDoor
open Go.RowKit

theorem filesPlain_is (s : Int) (s0 : -9223372036854775808 ≤ s) (s1 : s ≤ 9223372036854775807) (v : Value) (l : List Fd) (w : World) (h : FW w v l) (hl : l.length ≤ 1048576) (hT : TB19 w) :
    Calls Tryz.prog 3 #[.int .i64 s, v] w fun e w' => e = .returned (.bool true) ∧ Below w.heap.size w w' := filesPlain_any cplainC19 (awake19 cansC19) s s0 s1 v l w h hl hT

end Go.Proofs.YtgbnelglhkfdfaaGreatDoor
