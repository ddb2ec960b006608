/-
  AppNil: a nil app answers that it can't; no conditions.
-/
import Derived.Test.YtcfbobegbmcbeaaGreatDoorPkAP
import Derived.Test.YtcfbobegbmcbeaaGreatDoorPkBN
import Derived.Test.YtcfbobegbmcbeaaGreatDoorPkBO
namespace Go.Proofs.YtcfbobegbmcbeaaGreatDoor
open Go.RowKit

theorem appNil_is (r : Ap.Rq) (fv tv : Value) (w : World) (hT : TB19 w) :
  Calls Tryz.prog 5 #[.agg (rqC r.m r.sc r.au r.p fv r.b tv)] w fun e w' => e = .returned (.bool true) ∧ Below w.heap.size w w' :=
 appNil_any ak20 cnew20 cansC20 cansN20 r fv tv w hT

end Go.Proofs.YtcfbobegbmcbeaaGreatDoor
