/-
  The code's number and within: by their contracts.
-/
import Derived.Test.YtdbldompjhienaaDoorRhB
import Derived.Test.YtdbldompjhienaaDoorRgI
import Derived.Test.YtdbldompjhienaaDoorNums
import Derived.Test.YtdbldompjhienaaDoorRgC
namespace Go.Proofs.YtdbldompjhienaaDoor
open Go.RowKit

set_option maxHeartbeats 1000000 in
theorem cnum16 (s : ByteArray) (l : List UInt8) (hl : s.data.toList = l) (hs : s.size ≤ 1048576) : ∃ z : Int, (Rg.digB l = true → z = Rg.digN l) ∧ ∀ (w : World),
    Calls Tryd.prog 37 #[.string s] w fun e w' => e = .returned (.tuple #[.int .i64 z, .bool (Rg.digB l)]) ∧ w' = w := by
  have HSZ : Hid (s.size = l.length) := hid' (by rw [Lib.size_eq, hl])
  by_cases h2 : (15 : Int) < (s.size : Int)
  · have HN : Hid (Rg.digB l = false) := hid' (by unfold Rg.digB; rw [decide_eq_false (show ¬ l.length ≤ 15 by have := HSZ.out; omega), Bool.and_false]; rfl)
    refine ⟨0, (fun h => by rw [HN.out] at h; cases h), fun w => ?_⟩
    rw [HN.out]
    go_enter Tryd.func37, Tryd.ntmps37
    go_wp2
    go_ret2
    exact ⟨rfl, rfl⟩
  · have HN : Hid (Rg.digB l = ((Tx.num 10 l).2 == 0)) := hid' (by rw [← Rg.cB_eq]; unfold Rg.cB; rw [decide_eq_true (show l.length ≤ 15 by have := HSZ.out; omega), Bool.true_and])
    have HNM := hid' (fun w => number_any s w (by unfold maxLen; omega))
    rw [hl] at HNM
    have HOK : Hid (Rg.digB l = true → (Tx.num 10 l).1 = Rg.digN l) := hid' (fun h => (Rg.digN_ok h).symm)
    obtain ⟨a, ha⟩ : ∃ a, (Tx.num 10 l).1 = a := ⟨_, rfl⟩
    obtain ⟨b, hb⟩ : ∃ b, (Tx.num 10 l).2 = b := ⟨_, rfl⟩
    rw [ha] at HOK HNM
    rw [hb] at HN HNM
    clear ha hb
    refine ⟨a, HOK.out, fun w => ?_⟩
    rw [HN.out]
    go_enter Tryd.func37, Tryd.ntmps37
    go_wp2_with fail
    refine (HNM.out _).mono ?_
    rintro e w1 ⟨rfl, hw⟩
    subst w1
    go_wp2
    go_ret2
    exact ⟨rfl, rfl⟩

set_option maxHeartbeats 1000000 in
theorem cwth16 (r : Rg.Rn) (n : Int) (w : World) :
    Calls Tryd.prog 26 #[.agg #[.int .i64 r.a, .int .i64 r.b], .int .i64 n] w fun e w' => e = .returned (.bool (Rg.wth r n)) ∧ Below w.heap.size w w' := by
  obtain ⟨a, b⟩ := r
  have HX : Hid (Ar (w.alloc (.cells #[.int .i64 a, .int .i64 b] 23)) w.heap.size 23 #[.int .i64 a, .int .i64 b]) := hid' (heap_alloc_last w _)
  have HB1 := hid' (bl_alloc w (.cells #[.int .i64 a, .int .i64 b] 23))
  by_cases h1 : (0 : Int) ≤ a
  · by_cases h2 : a ≤ b
    · have HW : Hid (Rg.wth ⟨a, b⟩ n = decide (b < n)) := hid' (by unfold Rg.wth; simp only; rw [decide_eq_true h1, decide_eq_true h2, Bool.true_and, Bool.true_and])
      go_enter Tryd.func26, Tryd.ntmps26
      go_wp2
      go_ret
      exact ⟨by rw [HW.out]; rfl, HB1.out⟩
    · have HW : Hid (Rg.wth ⟨a, b⟩ n = false) := hid' (by unfold Rg.wth; simp only; rw [decide_eq_false h2, Bool.false_and, Bool.and_false])
      go_enter Tryd.func26, Tryd.ntmps26
      go_wp2
      go_ret
      exact ⟨by rw [HW.out]; rfl, HB1.out⟩
  · have HW : Hid (Rg.wth ⟨a, b⟩ n = false) := hid' (by unfold Rg.wth; simp only; rw [decide_eq_false h1, Bool.false_and])
    go_enter Tryd.func26, Tryd.ntmps26
    go_wp2
    go_ret
    exact ⟨by rw [HW.out]; rfl, HB1.out⟩

end Go.Proofs.YtdbldompjhienaaDoor
