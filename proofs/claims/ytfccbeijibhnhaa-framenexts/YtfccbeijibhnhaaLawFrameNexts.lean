/-
  FrameNexts, by its contract.
-/
import Derived.Test.YtfccbeijibhnhaaFrRa
import Derived.Test.YtfccbeijibhnhaaFrAw
namespace Go.Proofs.Ytfccbeijibhnhaa
open Go.RowKit

set_option maxHeartbeats 8000000 in
set_option maxRecDepth 20000 in
theorem frameNexts_of (l p : List UInt8) (most k f s n r : Int) (hx : ∀ w : World, Calls Try.prog 9 #[.string ⟨l.toArray⟩, .int .i64 most] w fun e w' => e = .returned (.tuple #[.agg (frC k f s p), .int .i64 n, .int .i64 r]) ∧ Below w.heap.size w w')
    (hy : ∀ w : World, Calls Try.prog 10 #[.string ⟨l.toArray⟩, .int .i64 most] w fun e w' => e = .returned (.tuple #[.agg (frC k f s p), .int .i64 n, .int .i64 r]) ∧ Below w.heap.size w w') (w : World) :
    Calls Try.prog 3 #[.string ⟨l.toArray⟩, .int .i64 most] w fun e w' => e = .returned (.bool true) ∧ Below w.heap.size w w' := by
  have HX := hid' hx
  have HY := hid' hy
  have hng := noGuardF
  have e1 : ∀ W, (binOp .eql 23 (.agg #[.int .i64 k, .int .i64 f, .int .i64 s, .string ⟨p.toArray⟩]) (.agg #[.int .i64 k, .int .i64 f, .int .i64 s, .string ⟨p.toArray⟩])).run Try.prog W = .ok (.bool true) W := fun W => by rw [eq_frame]; simp
  clear hx hy
  go_enter Try.func3, Try.ntmps3
  go_wp2_with fail
  refine (HX.out _).mono ?_
  rintro e w1 ⟨rfl, hb1⟩
  have HB1 := hid' hb1
  clear hb1
  go_wp2_with (refine wpl_alloc 23 rfl rfl _ zeroFrame ?_)
  intro b1 w2 hg ha hb
  refine wpl_stf _ _ rfl rfl b1 k f s p (by kernel_rfl) (by kernel_rfl) _ ha rfl ?_
  intro w3 ha1 hu
  have HB3 := hid' (below_two HB1.out (hb.trans (hu.below hg)))
  have HA3 := hid' ha1
  clear hg ha hb hu ha1
  go_wp2_with fail
  refine (HY.out _).mono ?_
  rintro e w4 ⟨rfl, hb4⟩
  have HB4 := hid' (below_two HB3.out hb4)
  have HA4 := hid' (HA3.out.keep hb4)
  clear hb4
  go_wp2_with (refine wpl_alloc 23 rfl rfl _ zeroFrame ?_)
  intro b2 w5 hg ha hb
  refine wpl_stf _ _ rfl rfl b2 k f s p (by kernel_rfl) (by kernel_rfl) _ ha rfl ?_
  intro w6 ha2 hu
  have hb6 := hb.trans (hu.below hg)
  have HB6 := hid' (below_two HB4.out hb6)
  have HA6 := hid' (HA4.out.keep hb6)
  have HC6 := hid' ha2
  clear hg ha hb hu ha2 hb6
  go_wp2_with fail
  refine (awake7 _).mono ?_
  rintro e w7 ⟨rfl, hb7⟩
  have HB7 := hid' (below_two HB6.out hb7)
  obtain ⟨c0, c1, c2, c3⟩ := frC_cells (HA6.out.keep hb7)
  obtain ⟨d0, d1, d2, d3⟩ := frC_cells (HC6.out.keep hb7)
  clear hb7
  go_wp2
  go_ret
  exact ⟨rfl, HB7.out⟩

theorem frameNexts_c (s : ByteArray) (most : Int) (w : World) (h : s.size ≤ 140737488355328) : Calls Try.prog 3 #[.string s, .int .i64 most] w fun e w' => e = .returned (.bool true) ∧ Below w.heap.size w w' := by
  have e : s = ⟨s.data.toList.toArray⟩ := by cases s; simp
  have hl : s.data.toList.length ≤ 140737488355328 := by rw [← Lib.size_eq]; exact h
  rw [e]
  generalize s.data.toList = l at *
  by_cases h0 : Fm.nextE l most = 0
  · exact frameNexts_of l _ most _ _ _ _ _ (fun w => cnext_ok l most _ rfl h0 (by omega) w) (fun w => rnext_ok l most _ rfl h0 w) w
  · exact frameNexts_of l [] most 0 0 0 0 _ (fun w => cnext_bad l most _ rfl h0 w) (fun w => rnext_bad l most _ rfl h0 w) w

end Go.Proofs.Ytfccbeijibhnhaa
