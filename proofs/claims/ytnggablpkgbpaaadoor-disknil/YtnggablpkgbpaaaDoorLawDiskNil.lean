/-
  DiskNil: no disk and no snapshot hold nothing.
-/
import Derived.Test.YtnggablpkgbpaaaDoorDkH
namespace Go.Proofs.YtnggablpkgbpaaaDoor
open Go.RowKit

set_option maxHeartbeats 4000000 in
set_option maxRecDepth 20000 in
theorem diskNil_any (x : ByteArray) (w : World) (_hx : x.size ≤ 140737488355328) :
    Calls Tryd.prog 6 #[.string x] w fun e w' => e = .returned (.bool true) ∧ Below w.heap.size w w' := by
  go_enter Tryd.func6, Tryd.ntmps6
  go_wp2_with fail
  refine (sgetN13 x w).mono ?_
  rintro _ w1 ⟨rfl, hb1⟩
  have HB1 := hid' hb1
  clear hb1
  simp only [fileV]
  go_wp2_with fail
  refine (cputN13 _ _ _ _).mono ?_
  rintro _ w2 ⟨rfl, hw⟩
  subst w2
  go_wp2_with fail
  refine (cremN13 _ _).mono ?_
  rintro _ w2 ⟨rfl, hw⟩
  subst w2
  go_wp2_with fail
  refine (cseqN13 _).mono ?_
  rintro _ w2 ⟨rfl, hw⟩
  subst w2
  go_wp2_with fail
  refine (csnapN13 _).mono ?_
  rintro _ w2 ⟨rfl, hw⟩
  subst w2
  go_wp2_with fail
  refine (slistN13 _ _).mono ?_
  rintro _ w2 ⟨rfl, hw⟩
  subst w2
  go_wp2_with fail
  refine (sseqN13 _).mono ?_
  rintro _ w2 ⟨rfl, hw⟩
  subst w2
  go_wp2_with fail
  refine (awake13 _).mono ?_
  rintro _ w3 ⟨rfl, hb3⟩
  have HB3 := hid' (below_from (HB1.out.alloc HB1.out.size _) hb3 (by simp; have := HB1.out.size; omega))
  clear hb3
  go_wp2
  go_ret
  exact ⟨rfl, HB3.out⟩

end Go.Proofs.YtnggablpkgbpaaaDoor
