/-
  frame.ofSetting: by their contracts.
-/
import Derived.Test.YthbidfcfkjamdaaFrB
import Derived.Deep.Cut
namespace Go.Proofs.Ythbidfcfkjamdaa
open Go.RowKit

theorem stC_cells {w : World} {b : Nat} {i v : Int} (h : Ar w b 29 #[.int .i64 i, .int .i64 v]) : w.cell? ⟨b, 0, none⟩ = some (.int .i64 i) ∧ w.cell? ⟨b, 1, none⟩ = some (.int .i64 v) := ⟨h.cell 0 _ rfl, h.cell 1 _ rfl⟩

set_option maxHeartbeats 8000000 in
set_option maxRecDepth 20000 in
theorem cofSetting_any (i v c : Int) (hc : Fm.bads i v = c) (w : World) : Calls Try.prog 80 #[.agg #[.int .i64 i, .int .i64 v]] w fun e w' => e = .returned (.agg (wgC (c != 0) (c != 0) c)) ∧ Below w.heap.size w w' := by
  by_cases q0 : i = 2 ∧ 1 < v
  · have hi : i = 2 := q0.1
    obtain rfl : c = 1 := by rw [← hc]; unfold Fm.bads; (repeat' split) <;> omega
    have e2 : (i == 2) = true := by simp [hi]
    have e4 : (i == 4) = false := by exact beq_false_of_ne (by omega)
    have e5 : (i == 5) = false := by exact beq_false_of_ne (by omega)
    have d1 : decide ((1 : Int) < v) = true := decide_eq_true (by omega)
    clear hi
    clear hc q0
    go_enter Try.func80, Try.ntmps80
    go_wp2_with (refine wpl_box 29 _ rfl rfl #[.int .i64 i, .int .i64 v] (by kernel_rfl) ?_)
    intro b0 w0 hg0 ha0 hb0
    obtain ⟨c0, c1⟩ := stC_cells ha0
    go_wp2_with (refine wpl_alloc 74 rfl rfl _ zeroWrong ?_)
    intro b1 w1 hg1 ha1 hb1
    obtain ⟨c0, c1⟩ := stC_cells (ha0.keep hb1)
    have hs := hb0.size
    have hg : w.heap.size ≤ b1 := by omega
    have HB := hid' (below_two hb0 hb1)
    have HA := hid' ha1
    clear ha0 ha1 hb0 hb1 hs
    go_wp2_with fail
    refine (cofConn_any 1 _).mono ?_
    rintro e w2 ⟨rfl, hb2⟩
    have HA2 := hid' (HA.out.keep hb2)
    have HB2 := hid' (below_two HB.out hb2)
    clear hb2
    go_wp2_with (refine wpl_stw _ _ rfl rfl b1 true true 1 (by kernel_rfl) (by kernel_rfl) _ HA2.out rfl ?_)
    intro w3 ha3 hu3
    go_wp2
    exact bodyPost_ret (v := .agg (wgC true true 1)) (by simp [results, Try.results80, asAddr, ldw ha3]) rfl ⟨rfl, HB2.out.trans (hu3.below hg)⟩
  by_cases q1 : i = 4 ∧ 2147483647 < v
  · have hi : i = 4 := q1.1
    obtain rfl : c = 3 := by rw [← hc]; unfold Fm.bads; (repeat' split) <;> omega
    have e2 : (i == 2) = false := by exact beq_false_of_ne (by omega)
    have e4 : (i == 4) = true := by simp [hi]
    have e5 : (i == 5) = false := by exact beq_false_of_ne (by omega)
    have d1 : decide ((2147483647 : Int) < v) = true := decide_eq_true (by omega)
    clear hi
    clear hc q0 q1
    go_enter Try.func80, Try.ntmps80
    go_wp2_with (refine wpl_box 29 _ rfl rfl #[.int .i64 i, .int .i64 v] (by kernel_rfl) ?_)
    intro b0 w0 hg0 ha0 hb0
    obtain ⟨c0, c1⟩ := stC_cells ha0
    go_wp2_with (refine wpl_alloc 74 rfl rfl _ zeroWrong ?_)
    intro b1 w1 hg1 ha1 hb1
    obtain ⟨c0, c1⟩ := stC_cells (ha0.keep hb1)
    have hs := hb0.size
    have hg : w.heap.size ≤ b1 := by omega
    have HB := hid' (below_two hb0 hb1)
    have HA := hid' ha1
    clear ha0 ha1 hb0 hb1 hs
    go_wp2_with fail
    refine (cofConn_any 3 _).mono ?_
    rintro e w2 ⟨rfl, hb2⟩
    have HA2 := hid' (HA.out.keep hb2)
    have HB2 := hid' (below_two HB.out hb2)
    clear hb2
    go_wp2_with (refine wpl_stw _ _ rfl rfl b1 true true 3 (by kernel_rfl) (by kernel_rfl) _ HA2.out rfl ?_)
    intro w3 ha3 hu3
    go_wp2
    exact bodyPost_ret (v := .agg (wgC true true 3)) (by simp [results, Try.results80, asAddr, ldw ha3]) rfl ⟨rfl, HB2.out.trans (hu3.below hg)⟩
  by_cases q2 : i = 5 ∧ v < 16384
  · have hi : i = 5 := q2.1
    obtain rfl : c = 1 := by rw [← hc]; unfold Fm.bads; (repeat' split) <;> omega
    have e2 : (i == 2) = false := by exact beq_false_of_ne (by omega)
    have e4 : (i == 4) = false := by exact beq_false_of_ne (by omega)
    have e5 : (i == 5) = true := by simp [hi]
    have d1 : decide (v < (16384 : Int)) = true := decide_eq_true (by omega)
    clear hi
    clear hc q0 q1 q2
    go_enter Try.func80, Try.ntmps80
    go_wp2_with (refine wpl_box 29 _ rfl rfl #[.int .i64 i, .int .i64 v] (by kernel_rfl) ?_)
    intro b0 w0 hg0 ha0 hb0
    obtain ⟨c0, c1⟩ := stC_cells ha0
    go_wp2_with (refine wpl_alloc 74 rfl rfl _ zeroWrong ?_)
    intro b1 w1 hg1 ha1 hb1
    obtain ⟨c0, c1⟩ := stC_cells (ha0.keep hb1)
    have hs := hb0.size
    have hg : w.heap.size ≤ b1 := by omega
    have HB := hid' (below_two hb0 hb1)
    have HA := hid' ha1
    clear ha0 ha1 hb0 hb1 hs
    go_wp2_with fail
    refine (cofConn_any 1 _).mono ?_
    rintro e w2 ⟨rfl, hb2⟩
    have HA2 := hid' (HA.out.keep hb2)
    have HB2 := hid' (below_two HB.out hb2)
    clear hb2
    go_wp2_with (refine wpl_stw _ _ rfl rfl b1 true true 1 (by kernel_rfl) (by kernel_rfl) _ HA2.out rfl ?_)
    intro w3 ha3 hu3
    go_wp2
    exact bodyPost_ret (v := .agg (wgC true true 1)) (by simp [results, Try.results80, asAddr, ldw ha3]) rfl ⟨rfl, HB2.out.trans (hu3.below hg)⟩
  by_cases q3 : i = 5 ∧ 16777215 < v
  · have hi : i = 5 := q3.1
    obtain rfl : c = 1 := by rw [← hc]; unfold Fm.bads; (repeat' split) <;> omega
    have e2 : (i == 2) = false := by exact beq_false_of_ne (by omega)
    have e4 : (i == 4) = false := by exact beq_false_of_ne (by omega)
    have e5 : (i == 5) = true := by simp [hi]
    have d0 : decide (v < (16384 : Int)) = false := decide_eq_false (by omega)
    have d1 : decide ((16777215 : Int) < v) = true := decide_eq_true (by omega)
    clear hi
    clear hc q0 q1 q2 q3
    go_enter Try.func80, Try.ntmps80
    go_wp2_with (refine wpl_box 29 _ rfl rfl #[.int .i64 i, .int .i64 v] (by kernel_rfl) ?_)
    intro b0 w0 hg0 ha0 hb0
    obtain ⟨c0, c1⟩ := stC_cells ha0
    go_wp2_with (refine wpl_alloc 74 rfl rfl _ zeroWrong ?_)
    intro b1 w1 hg1 ha1 hb1
    obtain ⟨c0, c1⟩ := stC_cells (ha0.keep hb1)
    have hs := hb0.size
    have hg : w.heap.size ≤ b1 := by omega
    have HB := hid' (below_two hb0 hb1)
    have HA := hid' ha1
    clear ha0 ha1 hb0 hb1 hs
    go_wp2_with fail
    refine (cofConn_any 1 _).mono ?_
    rintro e w2 ⟨rfl, hb2⟩
    have HA2 := hid' (HA.out.keep hb2)
    have HB2 := hid' (below_two HB.out hb2)
    clear hb2
    go_wp2_with (refine wpl_stw _ _ rfl rfl b1 true true 1 (by kernel_rfl) (by kernel_rfl) _ HA2.out rfl ?_)
    intro w3 ha3 hu3
    go_wp2
    exact bodyPost_ret (v := .agg (wgC true true 1)) (by simp [results, Try.results80, asAddr, ldw ha3]) rfl ⟨rfl, HB2.out.trans (hu3.below hg)⟩
  by_cases q4 : i = 2
  · have hi : i = 2 := q4
    obtain rfl : c = 0 := by rw [← hc]; unfold Fm.bads; (repeat' split) <;> omega
    have e2 : (i == 2) = true := by simp [hi]
    have e4 : (i == 4) = false := by exact beq_false_of_ne (by omega)
    have e5 : (i == 5) = false := by exact beq_false_of_ne (by omega)
    have d1 : decide ((1 : Int) < v) = false := decide_eq_false (by omega)
    clear hi
    clear hc q0 q1 q2 q3 q4
    go_enter Try.func80, Try.ntmps80
    go_wp2_with (refine wpl_box 29 _ rfl rfl #[.int .i64 i, .int .i64 v] (by kernel_rfl) ?_)
    intro b0 w0 hg0 ha0 hb0
    obtain ⟨c0, c1⟩ := stC_cells ha0
    go_wp2_with (refine wpl_alloc 74 rfl rfl _ zeroWrong ?_)
    intro b1 w1 hg1 ha1 hb1
    obtain ⟨c0, c1⟩ := stC_cells (ha0.keep hb1)
    have hs := hb0.size
    have hg : w.heap.size ≤ b1 := by omega
    have HB := hid' (below_two hb0 hb1)
    have HA := hid' ha1
    clear ha0 ha1 hb0 hb1 hs
    go_upto_region 7 with fail
    go_wp2_with (refine wpl_stw _ _ rfl rfl b1 false false 0 (by kernel_rfl) (by kernel_rfl) _ HA.out rfl ?_)
    intro w3 ha3 hu3
    go_wp2
    exact bodyPost_ret (v := .agg (wgC false false 0)) (by simp [results, Try.results80, asAddr, ldw ha3]) rfl ⟨rfl, HB.out.trans (hu3.below hg)⟩
  by_cases q5 : i = 4
  · have hi : i = 4 := q5
    obtain rfl : c = 0 := by rw [← hc]; unfold Fm.bads; (repeat' split) <;> omega
    have e2 : (i == 2) = false := by exact beq_false_of_ne (by omega)
    have e4 : (i == 4) = true := by simp [hi]
    have e5 : (i == 5) = false := by exact beq_false_of_ne (by omega)
    have d1 : decide ((2147483647 : Int) < v) = false := decide_eq_false (by omega)
    clear hi
    clear hc q0 q1 q2 q3 q4 q5
    go_enter Try.func80, Try.ntmps80
    go_wp2_with (refine wpl_box 29 _ rfl rfl #[.int .i64 i, .int .i64 v] (by kernel_rfl) ?_)
    intro b0 w0 hg0 ha0 hb0
    obtain ⟨c0, c1⟩ := stC_cells ha0
    go_wp2_with (refine wpl_alloc 74 rfl rfl _ zeroWrong ?_)
    intro b1 w1 hg1 ha1 hb1
    obtain ⟨c0, c1⟩ := stC_cells (ha0.keep hb1)
    have hs := hb0.size
    have hg : w.heap.size ≤ b1 := by omega
    have HB := hid' (below_two hb0 hb1)
    have HA := hid' ha1
    clear ha0 ha1 hb0 hb1 hs
    go_upto_region 7 with fail
    go_wp2_with (refine wpl_stw _ _ rfl rfl b1 false false 0 (by kernel_rfl) (by kernel_rfl) _ HA.out rfl ?_)
    intro w3 ha3 hu3
    go_wp2
    exact bodyPost_ret (v := .agg (wgC false false 0)) (by simp [results, Try.results80, asAddr, ldw ha3]) rfl ⟨rfl, HB.out.trans (hu3.below hg)⟩
  by_cases q6 : i = 5
  · have hi : i = 5 := q6
    obtain rfl : c = 0 := by rw [← hc]; unfold Fm.bads; (repeat' split) <;> omega
    have e2 : (i == 2) = false := by exact beq_false_of_ne (by omega)
    have e4 : (i == 4) = false := by exact beq_false_of_ne (by omega)
    have e5 : (i == 5) = true := by simp [hi]
    have d0 : decide (v < (16384 : Int)) = false := decide_eq_false (by omega)
    have d1 : decide ((16777215 : Int) < v) = false := decide_eq_false (by omega)
    clear hi
    clear hc q0 q1 q2 q3 q4 q5 q6
    go_enter Try.func80, Try.ntmps80
    go_wp2_with (refine wpl_box 29 _ rfl rfl #[.int .i64 i, .int .i64 v] (by kernel_rfl) ?_)
    intro b0 w0 hg0 ha0 hb0
    obtain ⟨c0, c1⟩ := stC_cells ha0
    go_wp2_with (refine wpl_alloc 74 rfl rfl _ zeroWrong ?_)
    intro b1 w1 hg1 ha1 hb1
    obtain ⟨c0, c1⟩ := stC_cells (ha0.keep hb1)
    have hs := hb0.size
    have hg : w.heap.size ≤ b1 := by omega
    have HB := hid' (below_two hb0 hb1)
    have HA := hid' ha1
    clear ha0 ha1 hb0 hb1 hs
    go_upto_region 7 with fail
    go_wp2_with (refine wpl_stw _ _ rfl rfl b1 false false 0 (by kernel_rfl) (by kernel_rfl) _ HA.out rfl ?_)
    intro w3 ha3 hu3
    go_wp2
    exact bodyPost_ret (v := .agg (wgC false false 0)) (by simp [results, Try.results80, asAddr, ldw ha3]) rfl ⟨rfl, HB.out.trans (hu3.below hg)⟩
  obtain rfl : c = 0 := by rw [← hc]; unfold Fm.bads; (repeat' split) <;> omega
  have e2 : (i == 2) = false := by exact beq_false_of_ne (by omega)
  have e4 : (i == 4) = false := by exact beq_false_of_ne (by omega)
  have e5 : (i == 5) = false := by exact beq_false_of_ne (by omega)
  clear hc q0 q1 q2 q3 q4 q5 q6
  go_enter Try.func80, Try.ntmps80
  go_wp2_with (refine wpl_box 29 _ rfl rfl #[.int .i64 i, .int .i64 v] (by kernel_rfl) ?_)
  intro b0 w0 hg0 ha0 hb0
  obtain ⟨c0, c1⟩ := stC_cells ha0
  go_wp2_with (refine wpl_alloc 74 rfl rfl _ zeroWrong ?_)
  intro b1 w1 hg1 ha1 hb1
  obtain ⟨c0, c1⟩ := stC_cells (ha0.keep hb1)
  have hs := hb0.size
  have hg : w.heap.size ≤ b1 := by omega
  have HB := hid' (below_two hb0 hb1)
  have HA := hid' ha1
  clear ha0 ha1 hb0 hb1 hs
  go_upto_region 7 with fail
  go_wp2_with (refine wpl_stw _ _ rfl rfl b1 false false 0 (by kernel_rfl) (by kernel_rfl) _ HA.out rfl ?_)
  intro w3 ha3 hu3
  go_wp2
  exact bodyPost_ret (v := .agg (wgC false false 0)) (by simp [results, Try.results80, asAddr, ldw ha3]) rfl ⟨rfl, HB.out.trans (hu3.below hg)⟩

end Go.Proofs.Ythbidfcfkjamdaa
