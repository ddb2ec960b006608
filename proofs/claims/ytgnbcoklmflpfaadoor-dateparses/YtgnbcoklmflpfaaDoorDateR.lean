/-
  The document's years, months and two digits, by their contracts.
-/
import Derived.Test.YtgnbcoklmflpfaaDoorDateE
namespace Go.Proofs.YtgnbcoklmflpfaaDoor
open Go.RowKit

set_option maxHeartbeats 400000 in
theorem rleap_any (y : Int) (h0 : 0 ≤ y) (w : World) : Calls Tryd.prog 54 #[.int .i64 y] w fun e w' => e = .returned (.bool (Dt.leap y)) ∧ w' = w := by
  have e1 : y.tmod 4 = y % 4 := Int.tmod_eq_emod_of_nonneg h0
  have e2 : y.tmod 100 = y % 100 := Int.tmod_eq_emod_of_nonneg h0
  have e3 : y.tmod 400 = y % 400 := Int.tmod_eq_emod_of_nonneg h0
  go_enter Tryd.func54, Tryd.ntmps54
  go_wp2
  all_goals go_ret
  all_goals exact ⟨ret_bool (by rw [Bool.eq_iff_iff, Dt.leap_iff]; simp; omega), rfl⟩

set_option maxHeartbeats 400000 in
theorem ryear_any (y : Int) (h0 : 0 ≤ y) (w : World) : Calls Tryd.prog 31 #[.int .i64 y] w fun e w' => e = .returned (.int .i64 (Dt.yl y)) ∧ w' = w := by
  cases hl : Dt.leap y
  all_goals
    go_enter Tryd.func31, Tryd.ntmps31
    go_wp2_with (go_at_call 54; refine (rleap_any _ h0 _).mono ?_; rintro e w' ⟨rfl, rfl⟩; rw [hl])
    go_ret
    exact ⟨ret_int (by simp [Dt.yl, hl]), rfl⟩

set_option maxHeartbeats 1000000 in
theorem rmonth_any (y m : Int) (h0 : 0 ≤ y) (m0 : 0 ≤ m) (m1 : m ≤ 11) (w : World) : Calls Tryd.prog 32 #[.int .i64 y, .int .i64 (m + 1)] w fun e w' => e = .returned (.int .i64 (Dt.ml m y)) ∧ w' = w := by
  have hy := Dt.yl_cases y
  have hy0 : 365 ≤ Dt.yl y := by omega
  have hy1 : Dt.yl y ≤ 366 := by omega
  clear hy
  refine Dt.m_cases (P := fun m => Calls Tryd.prog 32 #[.int .i64 y, .int .i64 (m + 1)] w fun e w' => e = .returned (.int .i64 (Dt.ml m y)) ∧ w' = w) m m0 m1 ?_
  refine ⟨?_, ?_, ?_, ?_, ?_, ?_, ?_, ?_, ?_, ?_, ?_, ?_⟩
  all_goals
    go_enter Tryd.func32, Tryd.ntmps32
    go_wp2_with (go_at_call 31; refine (ryear_any _ h0 _).mono ?_; rintro e w' ⟨rfl, rfl⟩)
    go_ret
    exact ⟨ret_int (by simp [Dt.ml]), rfl⟩

theorem two_back (x y : Int) (hx : 0 ≤ x ∧ x ≤ 255) (hy : 0 ≤ y ∧ y ≤ 255) (W : World) :
    (convert 51 9 (.slice (some ⟨W.heap.size, 0, none⟩) 2 2)).run Tryd.prog (W.alloc (.cells #[.int .u8 x, .int .u8 y] 5)) = .ok (.string ⟨#[Dt.ch x, Dt.ch y]⟩) (W.alloc (.cells #[.int .u8 x, .int .u8 y] 5)) := by
  refine run_convert_bytes_back _ _ _ 5 ⟨W.heap.size, 0, none⟩ 2 [Dt.ch x, Dt.ch y] Tryd.underlying51 Tryd.underlying5 Tryd.underlying9 ?_
  intro j hj
  have hj2 : j = 0 ∨ j = 1 := by have : j < 2 := hj; omega
  rcases hj2 with rfl | rfl
  · rw [show (⟨W.heap.size, 0, none⟩ : Addr).add 0 = ⟨W.heap.size, 0, none⟩ by simp [Addr.add], World.cell?_alloc_mark]
    simp only [List.getElem_cons_zero]
    rw [Dt.ch_toNat x hx.1 hx.2]; rfl
  · rw [show (⟨W.heap.size, 0, none⟩ : Addr).add 1 = ⟨W.heap.size, 1, none⟩ by simp [Addr.add], World.cell?_alloc_mark]
    simp only [List.getElem_cons_succ, List.getElem_cons_zero]
    rw [Dt.ch_toNat y hy.1 hy.2]; rfl

set_option maxHeartbeats 400000 in
theorem rtwo_any (n : Int) (h0 : 0 ≤ n) (h1 : n ≤ 99) (w : World) : Calls Tryd.prog 33 #[.int .i64 n] w fun e w' => e = .returned (.string ⟨(Dt.two n).toArray⟩) ∧ Below w.heap.size w w' := by
  have hc := two_back (48 + n / 10) (48 + n % 10) (by omega) (by omega) w
  go_enter Tryd.func33, Tryd.ntmps33
  go_wp2
  go_ret
  exact ⟨rfl, (Below.refl _ _).alloc (Nat.le_refl _) _⟩

end Go.Proofs.YtgnbcoklmflpfaaDoor
