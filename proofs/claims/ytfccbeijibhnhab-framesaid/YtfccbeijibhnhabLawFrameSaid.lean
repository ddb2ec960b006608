/-
  FrameSaid, by its contract.
-/
import Derived.Test.YtfccbeijibhnhabFrMk
import Derived.Test.YtfccbeijibhnhabFrSm
namespace Go.Proofs.Ytfccbeijibhnhab
open Go.RowKit

theorem hd_cells {w : World} {b : Nat} {T : TypeId} {k fl st : Int} (h : Ar w b T #[.int .i64 k, .int .i64 fl, .int .i64 st]) : w.cell? ⟨b, 0, none⟩ = some (.int .i64 k) ∧ w.cell? ⟨b, 1, none⟩ = some (.int .i64 fl) ∧ w.cell? ⟨b, 2, none⟩ = some (.int .i64 st) := ⟨h.cell 0 _ rfl, h.cell 1 _ rfl, h.cell 2 _ rfl⟩

set_option maxHeartbeats 8000000 in
set_option maxRecDepth 20000 in
theorem frameSaid_l (k fl st : Int) (p : Fm.Pt) (v : Value) (w : World) (hv : SR w v p.sets) :
    Calls Try.prog 3 #[.agg #[.int .i64 k, .int .i64 fl, .int .i64 st], .agg (ptC p v)] w fun e w' => e = .returned (.bool true) ∧ Below w.heap.size w w' := by
  obtain ⟨ao, cap, hsh⟩ := hv.shape
  subst hsh
  have HV := hid' hv
  clear hv
  rcases cmake_out k fl st p with hno | ⟨s, hu, hsl, hpr, hd, hss, hmk⟩
  · have HM := hid' hno
    have hng := noGuardF
    have e1 : ∀ W, (binOp .eql 29 (.agg #[.int .i64 0, .int .i64 0, .int .i64 0, .string ⟨#[]⟩]) (.agg #[.int .i64 0, .int .i64 0, .int .i64 0, .string ⟨#[]⟩])).run Try.prog W = .ok (.bool true) W := fun W => eq_frame 0 0 0 0 0 0 [] [] W
    clear hno
    go_enter Try.func3, Try.ntmps3
    go_wp2_with (refine wpl_box 23 _ rfl rfl #[.int .i64 k, .int .i64 fl, .int .i64 st] (by kernel_rfl) ?_)
    intro b1 w1 hg1 ha1 hb1
    refine wpl_box 27 _ rfl rfl (ptC p (.slice ao p.sets.length cap)) (by kernel_rfl) ?_
    intro b2 w2 hg2 ha2 hb2
    obtain ⟨c0, c1, c2⟩ := hd_cells (ha1.keep hb2)
    obtain ⟨x0, x1, x2, x3, x4, x5, x6, x7⟩ := pt_cells ha2
    have HB2 := hid' (below_two hb1 hb2)
    clear ha1 ha2 hb1 hb2
    go_wp2_with fail
    refine (HM.out _ _ (HV.out.keep HB2.out)).mono ?_
    rintro e w3 ⟨rfl, hb3⟩
    have HB3 := hid' (below_two HB2.out hb3)
    clear hb3 c0 c1 c2 x0 x1 x2 x3 x4 x5 x6 x7
    go_wp2_with (refine wpl_alloc 29 rfl rfl _ zeroFrame ?_)
    intro b4 w4 hg ha hb
    refine wpl_stf _ _ rfl rfl b4 0 0 0 [] (by kernel_rfl) (by kernel_rfl) _ ha rfl ?_
    intro w5 ha5 hu
    have HB5 := hid' (below_two HB3.out (hb.trans (hu.below hg)))
    have HA5 := hid' ha5
    clear hg ha hb hu ha5
    go_wp2_with fail
    refine (awake7 _).mono ?_
    rintro e w6 ⟨rfl, hb6⟩
    have HB6 := hid' (below_two HB5.out hb6)
    obtain ⟨d0, d1, d2, d3⟩ := frC_cells (HA5.out.keep hb6)
    clear hb6
    go_wp2
    go_ret
    exact ⟨rfl, HB6.out⟩
  · have HM := hid' hmk
    have HP : Hid (∀ w : World, Calls Try.prog 8 #[.agg (frC k fl st s)] w fun e w' => (∃ v, e = .returned (.tuple #[.agg (ptC p v), .agg wgZ]) ∧ Hid (SP w.heap.size w' (.ok p) v)) ∧ Below w.heap.size w w') := hid' (fun w => cparse_ok k fl st s p hpr (by omega) (by omega) w)
    have HW := hid' (fun w => cwrite_ok k fl st s hu hsl w)
    obtain ⟨y, hy⟩ : ∃ y, Fm.wr k fl st s = y := ⟨_, rfl⟩
    rw [hy] at HW
    have hyl : y.length = 9 + s.length := by rw [← hy]; exact Fm.wr_length _ _ _ _
    have hne : (y == []) = false := by cases y with | nil => simp at hyl; omega | cons => rfl
    have HSS := hid' hss
    clear hmk hpr hu hd hy hyl hss
    go_enter Try.func3, Try.ntmps3
    go_wp2_with (refine wpl_box 23 _ rfl rfl #[.int .i64 k, .int .i64 fl, .int .i64 st] (by kernel_rfl) ?_)
    intro b1 w1 hg1 ha1 hb1
    refine wpl_box 27 _ rfl rfl (ptC p (.slice ao p.sets.length cap)) (by kernel_rfl) ?_
    intro b2 w2 hg2 ha2 hb2
    obtain ⟨c0, c1, c2⟩ := hd_cells (ha1.keep hb2)
    obtain ⟨x0, x1, x2, x3, x4, x5, x6, x7⟩ := pt_cells ha2
    have HH := hid' (ha1.keep hb2)
    have HPP := hid' ha2
    have HB2 := hid' (below_two hb1 hb2)
    clear ha1 ha2 hb1 hb2
    go_wp2_with fail
    refine (HM.out _ _ (HV.out.keep HB2.out)).mono ?_
    rintro e w3 ⟨rfl, hb3⟩
    have HB3 := hid' (below_two HB2.out hb3)
    have HH := hid' (HH.out.keep hb3)
    have HPP := hid' (HPP.out.keep hb3)
    clear hb3 c0 c1 c2 x0 x1 x2 x3 x4 x5 x6 x7
    go_wp2_with (refine wpl_alloc 29 rfl rfl _ zeroFrame ?_)
    intro b4 w4 hg ha hb
    refine wpl_stf _ _ rfl rfl b4 k fl st s (by kernel_rfl) (by kernel_rfl) _ ha rfl ?_
    intro w5 ha5 hu
    have hb5 := hb.trans (hu.below hg)
    have HB5 := hid' (below_two HB3.out hb5)
    have HH := hid' (HH.out.keep hb5)
    have HPP := hid' (HPP.out.keep hb5)
    have HF := hid' ha5
    obtain ⟨d0, d1, d2, d3⟩ := frC_cells ha5
    clear hg ha hb hu ha5 hb5
    go_wp2_with fail
    refine (HP.out _).mono ?_
    rintro e w6 ⟨⟨u, rfl, hu⟩, hb6⟩
    have hq := hu.out _ rfl
    obtain ⟨bo, cap', hsh⟩ := (SR.of_own hq).shape
    subst hsh
    have HQ := hid' (SR.of_own hq)
    have HB6 := hid' (below_two HB5.out hb6)
    have HH := hid' (HH.out.keep hb6)
    have HPP := hid' (HPP.out.keep hb6)
    have HF := hid' (HF.out.keep hb6)
    clear hb6 hu hq d0 d1 d2 d3
    go_wp2_with (refine wpl_open2 rfl rfl rfl rfl ?_)
    intro b7 b8 w7 hg7 hg8 ha7 ha8 hb7
    refine wpl_st2 _ _ _ _ rfl rfl rfl rfl w6.heap.size b7 b8 p bo p.sets.length cap' false false 0 (by kernel_rfl) (by kernel_rfl) (by kernel_rfl) (by kernel_rfl) ha7 ha8 hg7 hg8 ?_
    intro w8 hp8 hw8 hb8
    have hb8' := hb7.trans hb8
    have HB8 := hid' (below_two HB6.out hb8')
    have HH := hid' (HH.out.keep hb8')
    have HPP := hid' (HPP.out.keep hb8')
    have HF := hid' (HF.out.keep hb8')
    have HQ := hid' (HQ.out.keep hb8')
    have HP8 := hid' hp8
    have HW8 := hid' hw8
    obtain ⟨d0, d1, d2, d3⟩ := frC_cells HF.out
    clear hg7 hg8 ha7 ha8 hb7 hb8 hb8' hp8 hw8
    go_wp2_with fail
    refine (HW.out _).mono ?_
    rintro e w9 ⟨rfl, hb9⟩
    have HB9 := hid' (below_two HB8.out hb9)
    have HH := hid' (HH.out.keep hb9)
    have HPP := hid' (HPP.out.keep hb9)
    have HF := hid' (HF.out.keep hb9)
    have HQ := hid' (HQ.out.keep hb9)
    have HP8 := hid' (HP8.out.keep hb9)
    have HW8 := hid' (HW8.out.keep hb9)
    clear hb9 d0 d1 d2 d3
    go_wp2_with fail
    refine (awake7 _).mono ?_
    rintro e w10 ⟨rfl, hb10⟩
    have HB10 := hid' (below_two HB9.out hb10)
    have HH := hid' (HH.out.keep hb10)
    have HPP := hid' (HPP.out.keep hb10)
    have HF := hid' (HF.out.keep hb10)
    have HQ := hid' (HQ.out.keep hb10)
    have HP8 := hid' (HP8.out.keep hb10)
    have HW8 := hid' (HW8.out.keep hb10)
    obtain ⟨z0, z1, z2⟩ := wg_cells HW8.out
    obtain ⟨x0, x1, x2, x3, x4, x5, x6, x7⟩ := pt_cells HPP.out
    obtain ⟨y0, y1, y2, y3, y4, y5, y6, y7⟩ := pt_cells HP8.out
    clear hb10
    go_wp2_with fail
    refine (csame_yes p _ _ _ (HV.out.keep HB10.out) HQ.out (by have := HSS.out; omega)).mono ?_
    rintro e w11 ⟨rfl, hb11⟩
    have HB11 := hid' (below_two HB10.out hb11)
    obtain ⟨c0, c1, c2⟩ := hd_cells (HH.out.keep hb11)
    obtain ⟨d0, d1, d2, d3⟩ := frC_cells (HF.out.keep hb11)
    clear hb11
    go_wp2
    go_ret
    exact ⟨rfl, HB11.out⟩

end Go.Proofs.Ytfccbeijibhnhab
