/-
  FrameWrites, by its contract.
-/
import Derived.Test.YtfccbeijibhnhaaFrRc
import Derived.Test.YtfccbeijibhnhaaFrAw
namespace Go.Proofs.Ytfccbeijibhnhaa
open Go.RowKit

set_option maxHeartbeats 8000000 in
set_option maxRecDepth 20000 in
theorem frameWrites_of (k fl st r : Int) (l s : List UInt8) (hx : ∀ w : World, Calls Try.prog 12 #[.agg (frC k fl st l)] w fun e w' => e = .returned (.tuple #[.string ⟨s.toArray⟩, .int .i64 r]) ∧ Below w.heap.size w w')
    (hy : ∀ w : World, Calls Try.prog 13 #[.agg (frC k fl st l)] w fun e w' => e = .returned (.tuple #[.string ⟨s.toArray⟩, .int .i64 r]) ∧ Below w.heap.size w w') (w : World) :
    Calls Try.prog 4 #[.agg (frC k fl st l)] w fun e w' => e = .returned (.bool true) ∧ Below w.heap.size w w' := by
  have HX := hid' hx
  have HY := hid' hy
  clear hx hy
  go_enter Try.func4, Try.ntmps4
  go_wp2_with (refine wpl_box 23 _ rfl rfl (frC k fl st l) (by kernel_rfl) ?_)
  intro b0 w0 hg0 ha0 hb0
  obtain ⟨c0, c1, c2, c3⟩ := frC_cells ha0
  have HB0 := hid' hb0
  have HA0 := hid' ha0
  clear ha0 hb0
  go_wp2_with fail
  refine (HX.out _).mono ?_
  rintro e w1 ⟨rfl, hb1⟩
  have HB1 := hid' (below_two HB0.out hb1)
  obtain ⟨d0, d1, d2, d3⟩ := frC_cells (HA0.out.keep hb1)
  clear hb1 c0 c1 c2 c3
  go_wp2_with fail
  refine (HY.out _).mono ?_
  rintro e w2 ⟨rfl, hb2⟩
  have HB2 := hid' (below_two HB1.out hb2)
  clear hb2
  go_wp2_with fail
  refine (awake7 _).mono ?_
  rintro e w3 ⟨rfl, hb3⟩
  have HB3 := hid' (below_two HB2.out hb3)
  clear hb3
  go_wp2
  go_ret
  exact ⟨rfl, HB3.out⟩

theorem frameWrites_c (k fl st : Int) (s : ByteArray) (w : World) : Calls Try.prog 4 #[.agg #[.int .i64 k, .int .i64 fl, .int .i64 st, .string s]] w fun e w' => e = .returned (.bool true) ∧ Below w.heap.size w w' := by
  have e : s = ⟨s.data.toList.toArray⟩ := by cases s; simp
  rw [e]
  generalize s.data.toList = l at *
  by_cases h0 : Fm.unw k fl st l.length = 0
  · have hl : l.length ≤ 16777215 := by
      have hr := h0
      unfold Fm.unw at hr
      split at hr
      · split at hr
        · cases hr
        · omega
      · cases hr
    exact frameWrites_of k fl st 0 l (Fm.wr k fl st l) (fun w => cwrite_ok k fl st l h0 hl w) (fun w => rwrite_any k fl st l 0 h0 _ (by rw [if_pos rfl]) w) w
  · exact frameWrites_of k fl st _ l [] (fun w => cwrite_bad k fl st l _ rfl h0 w) (fun w => rwrite_any k fl st l _ rfl [] (by rw [if_neg h0]) w) w

end Go.Proofs.Ytfccbeijibhnhaa
