/-
  Package date's small functions, each by its contract.
-/
import Derived.Test.YtgnbcoklmflpfaaDoorTrims
import Derived.Test.YtgnbcoklmflpfaaDoorPureDate
namespace Go.Proofs.YtgnbcoklmflpfaaDoor
open Go.RowKit

set_option maxHeartbeats 400000 in
theorem isLong_any (y : Int) (h0 : 0 ≤ y) (w : World) : Calls Tryd.prog 67 #[.int .i64 y] w fun e w' => e = .returned (.bool (Dt.leap y)) ∧ w' = w := by
  have e1 : y.tmod 4 = y % 4 := Int.tmod_eq_emod_of_nonneg h0
  have e2 : y.tmod 100 = y % 100 := Int.tmod_eq_emod_of_nonneg h0
  have e3 : y.tmod 400 = y % 400 := Int.tmod_eq_emod_of_nonneg h0
  go_enter Tryd.func67, Tryd.ntmps67
  go_wp2
  all_goals go_ret
  all_goals exact ⟨ret_bool (by rw [Bool.eq_iff_iff, Dt.leap_iff]; simp; omega), rfl⟩

set_option maxHeartbeats 400000 in
theorem longYears_any (y : Int) (h0 : 0 ≤ y) (h1 : y ≤ 10001) (w : World) : Calls Tryd.prog 66 #[.int .i64 y] w fun e w' => e = .returned (.int .i64 (Dt.ly y)) ∧ w' = w := by
  go_enter Tryd.func66, Tryd.ntmps66
  go_wp2
  go_ret
  exact ⟨ret_int (by unfold Dt.ly; omega), rfl⟩

set_option maxHeartbeats 400000 in
theorem longYears_none (w : World) : Calls Tryd.prog 66 #[.int .i64 (-1)] w fun e w' => e = .returned (.int .i64 0) ∧ w' = w := by
  go_enter Tryd.func66, Tryd.ntmps66
  go_wp2
  go_ret
  exact ⟨rfl, rfl⟩

set_option maxHeartbeats 400000 in
theorem aheadYear_pos (y : Int) (h0 : 1 ≤ y) (h1 : y ≤ 10001) (w : World) : Calls Tryd.prog 49 #[.int .i64 y] w fun e w' => e = .returned (.int .i64 (Dt.dY y)) ∧ w' = w := by
  have hl : Dt.ly 1969 = 477 := by decide
  have hb : 0 ≤ Dt.ly (y - 1) ∧ Dt.ly (y - 1) ≤ 10001 := by unfold Dt.ly; omega
  go_enter Tryd.func49, Tryd.ntmps49
  go_wp2_with fail
  refine (longYears_any (y - 1) (by omega) (by omega) _).mono ?_
  rintro e w1 ⟨rfl, rfl⟩
  go_wp2_with fail
  refine (longYears_any 1969 (by omega) (by omega) _).mono ?_
  rintro e w1 ⟨rfl, rfl⟩
  rw [hl]
  go_wp2
  go_ret
  exact ⟨ret_int (by unfold Dt.dY; omega), rfl⟩

set_option maxHeartbeats 400000 in
theorem aheadYear_zero (w : World) : Calls Tryd.prog 49 #[.int .i64 0] w fun e w' => e = .returned (.int .i64 (-719527)) ∧ w' = w := by
  have hl : Dt.ly 1969 = 477 := by decide
  go_enter Tryd.func49, Tryd.ntmps49
  go_wp2_with fail
  refine (longYears_none _).mono ?_
  rintro e w1 ⟨rfl, rfl⟩
  go_wp2_with fail
  refine (longYears_any 1969 (by omega) (by omega) _).mono ?_
  rintro e w1 ⟨rfl, rfl⟩
  rw [hl]
  go_wp2
  go_ret
  exact ⟨rfl, rfl⟩
theorem aheadYear_any (y : Int) (h0 : 0 ≤ y) (h1 : y ≤ 10001) (w : World) : Calls Tryd.prog 49 #[.int .i64 y] w fun e w' => e = .returned (.int .i64 (Dt.dYz y)) ∧ w' = w := by
  by_cases h : y = 0
  · subst h; exact aheadYear_zero w
  · rw [show Dt.dYz y = Dt.dY y by unfold Dt.dYz; rw [if_neg h]]; exact aheadYear_pos y (by omega) h1 w

set_option maxHeartbeats 2000000 in
theorem aheadMonth_any (m y : Int) (m0 : 0 ≤ m) (m1 : m ≤ 11) (h0 : 0 ≤ y) (w : World) : Calls Tryd.prog 51 #[.int .i64 m, .int .i64 y] w fun e w' => e = .returned (.int .i64 (Dt.dM m y)) ∧ Below w.heap.size w w' := by
  refine Dt.m_cases (P := fun m => Calls Tryd.prog 51 #[.int .i64 m, .int .i64 y] w fun e w' => e = .returned (.int .i64 (Dt.dM m y)) ∧ Below w.heap.size w w') m m0 m1 ?_
  cases hl : Dt.leap y
  all_goals refine ⟨?_, ?_, ?_, ?_, ?_, ?_, ?_, ?_, ?_, ?_, ?_, ?_⟩
  all_goals
    go_enter Tryd.func51, Tryd.ntmps51
    go_wp2_with (go_at_call 67; refine (isLong_any _ h0 _).mono ?_; rintro e w' ⟨rfl, rfl⟩; rw [hl])
    go_ret
    exact ⟨ret_int (by simp [Dt.dM, Dt.ahead, hl]), (Below.refl _ _).alloc (Nat.le_refl _) _⟩

set_option maxHeartbeats 400000 in
theorem name_any (row : ByteArray) (i : Nat) (h : i * 3 + 3 ≤ row.size) (hs : row.size ≤ 1000) (w : World) : Calls Tryd.prog 52 #[.string row, .int .i64 i] w fun e w' => e = .returned (.string (row.extract (i * 3) (i * 3 + 3))) ∧ w' = w := by
  go_enter Tryd.func52, Tryd.ntmps52
  go_wp2
  go_ret
  exact ⟨ret_str (by congr 1; omega), rfl⟩

end Go.Proofs.YtgnbcoklmflpfaaDoor
