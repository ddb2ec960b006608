/-
  H1writeReasons: a status' phrase, and the answer to what is no request: by its contract.
-/
import Derived.Test.YtbpdhcfmdkmoiaaDoorHwQ
namespace Go.Proofs.YtbpdhcfmdkmoiaaDoor
open Go.RowKit

set_option maxHeartbeats 4000000 in
set_option maxRecDepth 20000 in
theorem h1writeReasons_any (s : Int) (w : World) (hT : TB w) (hZ : TZ w) : Calls Tryd.prog 4 #[.int .i64 s] w fun e w' => e = .returned (.bool true) ∧ Below w.heap.size w w' := by
  have HT := hid' hT
  have HAW := hid' (awake22 w hT hZ)
  have HR1 := hid' (creason22 s)
  have HR2 := hid' (rreason22 s)
  have HB1 := hid' (fun W (h : TB W) => cbare22 s W h)
  have HB2 := hid' (fun W => rbare22 s W)
  clear hT hZ
  go_enter Tryd.func4, Tryd.ntmps4
  go_wp2_with (go_at_call 9; refine HAW.out.mono ?_; rintro e w1 ⟨rfl, hb1⟩; refine Hid.out ?_)
  refine hid' ?_
  have HBe := hid' hb1
  clear hb1
  go_wp2_with (go_at_call 12; refine (HR1.out _).mono ?_; rintro e w2 ⟨rfl, hw2⟩; refine Hid.out ?_)
  refine hid' ?_
  subst hw2
  go_wp2_with (go_at_call 13; refine (HR2.out _).mono ?_; rintro e w3 ⟨rfl, hw3⟩; refine Hid.out ?_)
  refine hid' ?_
  subst hw3
  go_wp2_with (go_at_call 14; refine (HB1.out _ (HT.out.keep HBe.out)).mono ?_; rintro e w4 ⟨rfl, hb4⟩; refine Hid.out ?_)
  refine hid' ?_
  have HB4 := hid' (below_two HBe.out hb4)
  clear hb4
  go_wp2_with (go_at_call 15; refine (HB2.out _).mono ?_; rintro e w5 ⟨rfl, hb5⟩; refine Hid.out ?_)
  refine hid' ?_
  have HB5 := hid' (below_two HB4.out hb5)
  clear hb5
  go_wp2
  go_ret
  exact ⟨by simp, HB5.out⟩

end Go.Proofs.YtbpdhcfmdkmoiaaDoor
