/-
  The law PrioNil, by its contract: it returns true for every number.
-/
import Derived.Test.YtekpjbhhbklboaaDoorPrW
namespace Go.Proofs.YtekpjbhhbklboaaDoor
open Go.RowKit

set_option maxHeartbeats 1000000 in
theorem nset_any (id x : Int) (q : Bool) (w : World) :
    Calls Tryd.prog 15 #[.pointer none, .int .i64 id, .agg #[.int .i64 x, .bool q]] w fun e w' => e = .returned (.tuple #[]) ∧ Below w.heap.size w w' := by
  go_enter Tryd.func15, Tryd.ntmps15
  go_wp2
  refine bodyPost_ret (results_none rfl _ _ _) rfl ⟨rfl, (Below.refl _ _).alloc (Nat.le_refl _) _⟩
theorem nrem_any (id : Int) (w : World) :
    Calls Tryd.prog 17 #[.pointer none, .int .i64 id] w fun e w' => e = .returned (.tuple #[]) ∧ w' = w := by
  go_enter Tryd.func17, Tryd.ntmps17
  go_wp2
  refine bodyPost_ret (results_none rfl _ _ _) rfl ⟨rfl, rfl⟩
theorem nnext_any (v : Value) (w : World) :
    Calls Tryd.prog 20 #[.pointer none, v] w fun e w' => e = .returned (.int .i64 0) ∧ w' = w := by
  go_enter Tryd.func20, Tryd.ntmps20
  go_wp2
  go_ret
  exact ⟨rfl, rfl⟩
theorem nlen_any (w : World) :
    Calls Tryd.prog 23 #[.pointer none] w fun e w' => e = .returned (.int .i64 0) ∧ w' = w := by
  go_enter Tryd.func23, Tryd.ntmps23
  go_wp2
  go_ret
  exact ⟨rfl, rfl⟩

set_option maxHeartbeats 1000000 in
theorem prioNil_any (id : Int) (w : World) :
    Calls Tryd.prog 8 #[.int .i64 id] w fun e w' => e = .returned (.bool true) ∧ Below w.heap.size w w' := by
  go_enter Tryd.func8, Tryd.ntmps8
  go_wp2_with fail
  refine (nset_any id 0 false _).mono ?_
  rintro e w1 ⟨rfl, hb1⟩
  have HB1 := hid' hb1
  clear hb1
  go_wp2_with fail
  refine (nrem_any id _).mono ?_
  rintro e w2 ⟨rfl, hw2⟩
  subst w2
  go_wp2_with fail
  refine (awake_any _).mono ?_
  rintro e w3 ⟨rfl, hb3⟩
  have HB3 := hid' (below_two HB1.out hb3)
  clear hb3
  go_wp2_with fail
  refine (nnext_any _ _).mono ?_
  rintro e w4 ⟨rfl, hw4⟩
  have HB4 : Hid (Below w.heap.size w w4) := hid' (by rw [hw4]; exact below_two HB3.out ((Below.refl _ _).alloc (Nat.le_refl _) _))
  clear hw4
  go_wp2_with fail
  refine (nlen_any _).mono ?_
  rintro e w5 ⟨rfl, hw5⟩
  subst w5
  go_wp2
  go_ret
  exact ⟨rfl, HB4.out⟩

end Go.Proofs.YtekpjbhhbklboaaDoor
