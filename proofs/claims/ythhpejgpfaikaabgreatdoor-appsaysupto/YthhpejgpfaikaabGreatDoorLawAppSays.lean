/-
  AppSays: an answer says its body's length, once.
-/
import Derived.Test.YthhpejgpfaikaabGreatDoorPsBS
namespace Go.Proofs.YthhpejgpfaikaabGreatDoor
set_option maxHeartbeats 64000000
open Go.RowKit

theorem appSays_is (v : Value) (l : List Dk.En) (w : World) (hw : EW19 w v l) (hl : l.length ≤ 1048576) (hb : ∀ e ∈ l, e.path.size ≤ 1048576 ∧ e.body.size ≤ 1048576) (r : Ap.Rq) (fv tv : Value) (hf : FW w fv r.fs) (ht : FW w tv r.ts) (hq : BQ20 r) (hT : TB19 w) :
  Calls Tryz.prog 3 #[v, .agg (rqC r.m r.sc r.au r.p fv r.b tv)] w fun e w' => e = .returned (.bool true) ∧ Below w.heap.size w w' :=
 appSays_any ak20 cnew20 cansC20 v l w hw hl hb r fv tv hf ht hq hT

end Go.Proofs.YthhpejgpfaikaabGreatDoor
