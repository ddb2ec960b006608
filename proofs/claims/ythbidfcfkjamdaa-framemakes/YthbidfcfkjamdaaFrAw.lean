/-
  awake: some of the chapter's examples.
-/
import Derived.Test.YthbidfcfkjamdaaFrL
import Derived.Test.YthbidfcfkjamdaaFrZa
import Derived.Test.YthbidfcfkjamdaaFrZb
namespace Go.Proofs.Ythbidfcfkjamdaa
open Go.RowKit

theorem aw_next (w : World) : Calls Try.prog 39 #[.string ⟨#[0, 0, 1, 0, 1, 128, 0, 0, 3, 97, 98]⟩, .int .i64 10] w fun e w' => e = .returned (.tuple #[.agg (frC 0 1 3 [97]), .int .i64 10, .int .i64 0]) ∧ Below w.heap.size w w' :=
  cnext_ok [0, 0, 1, 0, 1, 128, 0, 0, 3, 97, 98] 10 1 (by rfl) (by rfl) (by decide) w
theorem aw_long (w : World) : Calls Try.prog 39 #[.string ⟨#[0, 0, 2]⟩, .int .i64 1] w fun e w' => e = .returned (.tuple #[.agg (frC 0 0 0 []), .int .i64 0, .int .i64 3]) ∧ Below w.heap.size w w' :=
  cnext_bad [0, 0, 2] 1 3 (by rfl) (by decide) w
theorem aw_data (w : World) : Calls Try.prog 40 #[.agg (frC 0 8 1 [2, 97, 98, 0, 0])] w fun e w' => (∃ ao n cap, e = .returned (.tuple #[.agg (ptC ⟨[97, 98], 3, 0, 0, 0, false, 0, []⟩ (.slice ao n cap)), .agg wgZ])) ∧ Below w.heap.size w w' := by
  refine (cparse_ok 0 8 1 [2, 97, 98, 0, 0] ⟨[97, 98], 3, 0, 0, 0, false, 0, []⟩ (by rfl) (by decide) (by decide) w).mono ?_
  rintro e w' ⟨⟨v, rfl, hv⟩, hb⟩
  refine ⟨?_, hb⟩
  rcases (hv.out _ rfl).2 with ⟨h, _⟩ | ⟨g, cap, cur, h, _⟩
  · exact ⟨_, _, _, by rw [h]; rfl⟩
  · exact ⟨_, _, _, by rw [h]; rfl⟩
theorem aw_window (w : World) : Calls Try.prog 40 #[.agg (frC 8 0 3 [0, 0, 0, 0])] w fun e w' => e = .returned (.tuple #[.agg ptZ, .agg (wgC true false 1)]) ∧ Below w.heap.size w w' :=
  cparse_bad 8 0 3 [0, 0, 0, 0] false 1 (by rfl) (by decide) w
theorem aw_make (w : World) : Calls Try.prog 9 #[.int .i64 3, .int .i64 0, .int .i64 5, .agg (ptC ⟨[], 0, 8, 0, 0, false, 0, []⟩ (.slice none 0 0))] w fun e w' => e = .returned (.tuple #[.agg (frC 3 0 5 [0, 0, 0, 8]), .int .i64 0]) ∧ Below w.heap.size w w' :=
  cmake_yes 3 0 5 ⟨[], 0, 8, 0, 0, false, 0, []⟩ (.slice none 0 0) [0, 0, 0, 8] (cpay_reset 0 5 ⟨[], 0, 8, 0, 0, false, 0, []⟩ (by decide) (by decide)) (by rfl)
    (fun w v hv => csays_all 3 0 5 [0, 0, 0, 8] [] 0 8 0 0 false 0 [] [] v (by rfl) (by decide) w hv true (by decide) (by decide)) w (SR.nil w)

set_option maxHeartbeats 8000000 in
set_option maxRecDepth 20000 in
theorem awake7 (w : World) : Calls Try.prog 11 #[] w fun e w' => e = .returned (.bool true) ∧ Below w.heap.size w w' := by
  go_enter Try.func11, Try.ntmps11
  go_wp2_with fail
  refine (aw_next _).mono ?_
  rintro e w1 ⟨rfl, hb1⟩
  have HB1 := hid' hb1
  clear hb1
  go_wp2_with (refine wpl_alloc 31 rfl rfl _ zeroFrame ?_)
  intro b1 w2 hg ha hb
  refine wpl_stf _ _ rfl rfl b1 0 1 3 [97] (by kernel_rfl) (by kernel_rfl) _ ha rfl ?_
  intro w3 ha1 hu
  have HB3 := hid' (below_two HB1.out (hb.trans (hu.below hg)))
  have H1 := hid' ha1
  clear hg ha hb hu ha1
  go_wp2_with fail
  refine (aw_long _).mono ?_
  rintro e w4 ⟨rfl, hb4⟩
  have HB4 := hid' (below_two HB3.out hb4)
  have H1 := hid' (H1.out.keep hb4)
  clear hb4
  go_wp2_with (refine wpl_alloc 31 rfl rfl _ zeroFrame ?_)
  intro b2 w5 hg ha hb
  refine wpl_stf _ _ rfl rfl b2 0 0 0 [] (by kernel_rfl) (by kernel_rfl) _ ha rfl ?_
  intro w6 ha2 hu
  have hb6 := hb.trans (hu.below hg)
  have HB6 := hid' (below_two HB4.out hb6)
  have H1 := hid' (H1.out.keep hb6)
  clear hg ha hb hu ha2 hb6
  go_wp2_with fail
  refine (aw_data _).mono ?_
  rintro e w7 ⟨⟨ao, n, cap, rfl⟩, hb7⟩
  have HB7 := hid' (below_two HB6.out hb7)
  have H1 := hid' (H1.out.keep hb7)
  clear hb7
  go_wp2_with (refine wpl_open2 rfl rfl rfl rfl ?_)
  intro b3 b4 w8 hg3 hg4 ha3 ha4 hb8
  refine wpl_st2 _ _ _ _ rfl rfl rfl rfl w7.heap.size b3 b4 ⟨[97, 98], 3, 0, 0, 0, false, 0, []⟩ ao n cap false false 0 (by kernel_rfl) (by kernel_rfl) (by kernel_rfl) (by kernel_rfl) ha3 ha4 hg3 hg4 ?_
  intro w9 hp3 hw4 hb9
  have hb9' := hb8.trans hb9
  have HB9 := hid' (below_two HB7.out hb9')
  have H1 := hid' (H1.out.keep hb9')
  have H3 := hid' hp3
  have H4 := hid' hw4
  clear hg3 hg4 ha3 ha4 hb8 hb9 hb9' hp3 hw4
  go_wp2_with fail
  refine (aw_window _).mono ?_
  rintro e w10 ⟨rfl, hb10⟩
  have HB10 := hid' (below_two HB9.out hb10)
  have H1 := hid' (H1.out.keep hb10)
  have H3 := hid' (H3.out.keep hb10)
  have H4 := hid' (H4.out.keep hb10)
  clear hb10
  go_wp2_with (refine wpl_open2 rfl rfl rfl rfl ?_)
  intro b5 b6 w11 hg3 hg4 ha3 ha4 hb8
  refine wpl_st2 _ _ _ _ rfl rfl rfl rfl w10.heap.size b5 b6 Fm.none' none 0 0 true false 1 (by kernel_rfl) (by kernel_rfl) (by kernel_rfl) (by kernel_rfl) ha3 ha4 hg3 hg4 ?_
  intro w12 hp5 hw6 hb9
  have hb9' := hb8.trans hb9
  have HB12 := hid' (below_two HB10.out hb9')
  have H1 := hid' (H1.out.keep hb9')
  have H3 := hid' (H3.out.keep hb9')
  have H4 := hid' (H4.out.keep hb9')
  have H6 := hid' hw6
  clear hg3 hg4 ha3 ha4 hb8 hb9 hb9' hp5 hw6
  go_wp2_with fail
  refine (aw_make _).mono ?_
  rintro e w13 ⟨rfl, hb13⟩
  have HB13 := hid' (below_two HB12.out hb13)
  have H1 := hid' (H1.out.keep hb13)
  have H3 := hid' (H3.out.keep hb13)
  have H4 := hid' (H4.out.keep hb13)
  have H6 := hid' (H6.out.keep hb13)
  clear hb13
  go_wp2_with (refine wpl_alloc 31 rfl rfl _ zeroFrame ?_)
  intro b7 w14 hg ha hb
  refine wpl_stf _ _ rfl rfl b7 3 0 5 [0, 0, 0, 8] (by kernel_rfl) (by kernel_rfl) _ ha rfl ?_
  intro w15 ha7 hu
  have hb15 := hb.trans (hu.below hg)
  have HB15 := hid' (below_two HB13.out hb15)
  obtain ⟨p0, p1, p2, p3⟩ := frC_cells (H1.out.keep hb15)
  obtain ⟨q0, q1, q2, q3, q4, q5, q6, q7⟩ := pt_cells (H3.out.keep hb15)
  obtain ⟨r0, r1, r2⟩ := wg_cells (H4.out.keep hb15)
  obtain ⟨s0, s1, s2⟩ := wg_cells (H6.out.keep hb15)
  obtain ⟨t0, t1, t2, t3⟩ := frC_cells ha7
  clear hg ha hb hu ha7 hb15
  have e1 : ∀ W, (binOp .eql 31 (.agg #[.int .i64 0, .int .i64 1, .int .i64 3, .string ⟨#[97]⟩]) (.agg #[.int .i64 0, .int .i64 1, .int .i64 3, .string ⟨#[97]⟩])).run Try.prog W = .ok (.bool true) W := fun W => eq_frame 0 1 3 0 1 3 [97] [97] W
  have e2 : ∀ W, (binOp .eql 31 (.agg #[.int .i64 3, .int .i64 0, .int .i64 5, .string ⟨#[0, 0, 0, 8]⟩]) (.agg #[.int .i64 3, .int .i64 0, .int .i64 5, .string ⟨#[0, 0, 0, 8]⟩])).run Try.prog W = .ok (.bool true) W := fun W => eq_frame 3 0 5 3 0 5 [0, 0, 0, 8] [0, 0, 0, 8] W
  have e3 : ∀ W, (binOp .eql 74 (.agg #[.bool true, .bool false, .int .i64 1]) (.agg #[.bool true, .bool false, .int .i64 1])).run Try.prog W = .ok (.bool true) W := fun W => eq_wrong true false true false 1 1 W
  have hng := noGuardF
  have hnw := noGuardW
  go_wp2
  go_ret
  exact ⟨rfl, HB15.out⟩

end Go.Proofs.Ythbidfcfkjamdaa
