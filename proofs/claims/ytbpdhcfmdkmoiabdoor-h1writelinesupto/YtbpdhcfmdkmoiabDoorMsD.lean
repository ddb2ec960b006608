/-
  The document's decimal, plain: by their contracts.
-/
import Derived.Test.YtbpdhcfmdkmoiabDoorMsC
import Derived.Test.YtbpdhcfmdkmoiabDoorDkZ
namespace Go.Proofs.YtbpdhcfmdkmoiabDoor
open Go.RowKit

theorem dec_empty {x : ByteArray} (h : (x.toList == []) = true) : Ms.dec x = false := by
  unfold Ms.dec
  rw [show (Ms.tx x == []) = true by rw [Ms.tx, ← Lib.toList_data]; exact h]
  rfl

end Go.Proofs.YtbpdhcfmdkmoiabDoor
