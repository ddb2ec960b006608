/-
  FlowNil: no window lets nothing through.
-/
import Derived.Test.YthbidfcfkjamdaaFlW
namespace Go.Proofs.Ythbidfcfkjamdaa
open Go.RowKit

set_option maxHeartbeats 4000000 in
theorem flowNil_true (n : Int) (w : World) :
    Calls Try.prog 8 #[.int .i64 n] w fun e w' => e = .returned (.bool true) ∧ Below w.heap.size w w' := by
  go_enter Try.func8, Try.ntmps8
  go_wp2_with fail
  refine (wnil_add n _).mono ?_
  rintro e w1 ⟨rfl, hw1⟩
  subst w1
  go_wp2_with fail
  refine (wnil_shift n _).mono ?_
  rintro e w1 ⟨rfl, hw1⟩
  subst w1
  go_wp2_with fail
  refine (wnil_take n _).mono ?_
  rintro e w1 ⟨rfl, hw1⟩
  subst w1
  go_wp2_with fail
  refine (gnil_got n _).mono ?_
  rintro e w1 ⟨rfl, hw1⟩
  subst w1
  go_wp2_with fail
  refine (gnil_used n _).mono ?_
  rintro e w1 ⟨rfl, hw1⟩
  subst w1
  go_wp2_with fail
  refine (awake9 _).mono ?_
  rintro e w2 ⟨rfl, hb2⟩
  have HB2 := hid' hb2
  clear hb2
  go_wp2_with fail
  refine (wsize_nil _).mono ?_
  rintro e w1 ⟨rfl, hw1⟩
  subst w1
  go_wp2_with fail
  refine (gnil_grant _).mono ?_
  rintro e w1 ⟨rfl, hw1⟩
  subst w1
  go_wp2_with fail
  refine (gnil_left _).mono ?_
  rintro e w1 ⟨rfl, hw1⟩
  subst w1
  go_wp2_with fail
  refine (cfits_any _ [(none, 0)] n 0 (Fw.fits_zero (by simp)) _ (.inr ⟨_, _, rfl, ?_⟩) ?_ (by simp)).mono ?_
  · exact fun j u hj => rr_cells (heap_alloc_last w2 _) j u hj
  · intro q hq
    obtain rfl : q = (none, 0) := by simpa using hq
    exact rfl
  rintro e w3 ⟨rfl, hw3⟩
  have HB3 : Hid (Below w.heap.size w w3) := hid' (by rw [hw3]; exact below_two HB2.out ((Below.refl _ _).alloc (Nat.le_refl _) _))
  clear hw3
  go_wp2
  go_ret
  exact ⟨rfl, HB3.out⟩

end Go.Proofs.Ythbidfcfkjamdaa
