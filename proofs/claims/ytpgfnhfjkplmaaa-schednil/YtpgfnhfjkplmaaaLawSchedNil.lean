/-
  SchedNil: a nil scheduler has no tasks.
-/
import Derived.Test.YtpgfnhfjkplmaaaSdW
namespace Go.Proofs.Ytpgfnhfjkplmaaa
open Go.RowKit

theorem bl_dn {B : Nat} {w w' w'' : World} {q : Nat} (h : Below B w w') (e : w'' = w'.drewN q) : Below B w w'' := by rw [e]; exact ⟨h.os, h.tape, h.output, h.size, h.block⟩

set_option maxHeartbeats 4000000 in
set_option maxRecDepth 20000 in
theorem schedNil_true (x : Int) (w : World) :
    Calls Try.prog 5 #[.int .i64 x] w fun e w' => e = .returned (.bool true) ∧ Below w.heap.size w w' := by
  go_enter Try.func5, Try.ntmps5
  go_wp2_with fail
  refine (spick_nil _ _).mono ?_
  rintro _ w1 ⟨rfl, hw⟩
  subst w1
  go_wp2_with fail
  refine (sadd_nil _ _).mono ?_
  rintro _ w1 ⟨rfl, hw⟩
  subst w1
  go_wp2_with fail
  refine (sdrop_nil _ _).mono ?_
  rintro _ w1 ⟨rfl, hw⟩
  subst w1
  go_wp2_with fail
  refine (swake_nil _ _).mono ?_
  rintro _ w1 ⟨rfl, q1, hw1⟩
  have HB1 := hid' (bl_dn (Below.refl w.heap.size w) hw1)
  clear hw1
  go_wp2_with fail
  refine (ssleep_nil _ _).mono ?_
  rintro _ w2 ⟨rfl, q2, hw2⟩
  have HB2 := hid' (bl_dn HB1.out hw2)
  clear hw2 HB1
  go_wp2_with fail
  refine (sready_nil _).mono ?_
  rintro _ w3 ⟨rfl, hw⟩
  subst w3
  go_wp2_with fail
  refine (awake12 _).mono ?_
  rintro _ w4 ⟨rfl, hb⟩
  have HB4 := hid' (below_from HB2.out hb HB2.out.size)
  clear hb
  go_wp2
  go_ret
  exact ⟨rfl, HB4.out⟩

end Go.Proofs.Ytpgfnhfjkplmaaa
