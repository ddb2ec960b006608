/-
  DiskPaths: which texts may be a file's path.
-/
import Derived.Test.YtnggablpkgbpaaaDoorDkH
namespace Go.Proofs.YtnggablpkgbpaaaDoor
open Go.RowKit

set_option maxHeartbeats 4000000 in
set_option maxRecDepth 20000 in
theorem diskPaths_any (x : ByteArray) (w : World) (hx : x.size ≤ 140737488355328) :
    Calls Tryd.prog 3 #[.string x] w fun e w' => e = .returned (.bool true) ∧ Below w.heap.size w w' := by
  obtain ⟨b, hb⟩ : ∃ b, Dk.path x.data.toList = b := ⟨_, rfl⟩
  have HP := hid' hb
  have hbb : (b == b) = true := beq_self_eq_true _
  clear hb
  go_enter Tryd.func3, Tryd.ntmps3
  go_wp2_with fail
  refine (cpath13 x b HP.out w hx).mono ?_
  rintro _ w1 ⟨rfl, hb1⟩
  have HB1 := hid' hb1
  clear hb1
  go_wp2_with fail
  refine (rpath x b HP.out w1 (by omega)).mono ?_
  rintro _ w2 ⟨rfl, hw2⟩
  subst w2
  go_wp2_with fail
  refine (awake13 _).mono ?_
  rintro _ w3 ⟨rfl, hb3⟩
  have HB3 := hid' (below_from HB1.out hb3 HB1.out.size)
  clear hb3
  go_wp2
  go_ret
  exact ⟨rfl, HB3.out⟩

end Go.Proofs.YtnggablpkgbpaaaDoor
