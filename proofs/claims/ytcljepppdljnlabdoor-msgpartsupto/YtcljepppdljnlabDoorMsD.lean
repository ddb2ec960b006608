/-
  The document's decimal, plain: by their contracts.
-/
import Derived.Test.YtcljepppdljnlabDoorMsC
import Derived.Test.YtcljepppdljnlabDoorDkZ
namespace Go.Proofs.YtcljepppdljnlabDoor
open Go.RowKit

theorem dec_empty {x : ByteArray} (h : (x.toList == []) = true) : Ms.dec x = false := by
  unfold Ms.dec
  rw [show (Ms.tx x == []) = true by rw [Ms.tx, ← Lib.toList_data]; exact h]
  rfl

end Go.Proofs.YtcljepppdljnlabDoor
