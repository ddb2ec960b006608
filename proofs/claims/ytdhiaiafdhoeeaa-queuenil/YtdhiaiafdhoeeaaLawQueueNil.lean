/-
  QueueNil: nothing waits in no queue.
-/
import Derived.Test.YtdhiaiafdhoeeaaQuW
namespace Go.Proofs.Ytdhiaiafdhoeeaa
open Go.RowKit

set_option maxHeartbeats 4000000 in
set_option maxRecDepth 20000 in
theorem queueNil_true (x : Int) (w : World) :
    Calls Try.prog 6 #[.int .i64 x] w fun e w' => e = .returned (.bool true) ∧ Below w.heap.size w w' := by
  go_enter Try.func6, Try.ntmps6
  go_wp2_with fail
  refine (qtake_nil_I _).mono ?_
  rintro _ w1 ⟨rfl, rfl⟩
  go_wp2_with fail
  refine (qawake _).mono ?_
  rintro _ w2 ⟨rfl, hb⟩
  have HB := hid' hb
  clear hb
  go_wp2_with fail
  refine (qput_nil_I x _).mono ?_
  rintro _ w3 ⟨rfl, hb⟩
  have HB3 := hid' (below_from HB.out hb HB.out.size)
  clear hb
  go_wp2_with fail
  refine (qlen_nil_I _).mono ?_
  rintro _ w3 ⟨rfl, rfl⟩
  go_wp2_with fail
  refine (qroom_nil_I _).mono ?_
  rintro _ w3 ⟨rfl, rfl⟩
  go_wp2_with fail
  refine (qdrain_nil_I _).mono ?_
  rintro _ w4 ⟨⟨vo, cp, rfl⟩, hb⟩
  have HB4 := hid' (below_from HB3.out hb HB3.out.size)
  clear hb
  go_wp2
  go_ret
  exact ⟨rfl, HB4.out⟩

end Go.Proofs.Ytdhiaiafdhoeeaa
