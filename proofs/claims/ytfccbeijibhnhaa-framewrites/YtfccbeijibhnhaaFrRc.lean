/-
  ostlerref07.Write, by its contract.
-/
import Derived.Test.YtfccbeijibhnhaaFrRb
import Derived.Deep.RegionHeld3
namespace Go.Proofs.Ytfccbeijibhnhaa
open Go.RowKit

set_option maxHeartbeats 2000000 in
set_option maxRecDepth 20000 in
theorem rwrite_no0 (k fl st : Int) (l : List UInt8) (q0 : k < 0) (w : World) : Calls Try.prog 13 #[.agg (frC k fl st l)] w fun e w' => e = .returned (.tuple #[.string ⟨#[]⟩, .int .i64 5]) ∧ Below w.heap.size w w' := by
  have d0 : decide (k < 0) = true := decide_eq_true (by omega)
  clear q0
  go_enter Try.func13, Try.ntmps13
  go_wp2_with (refine wpl_box 23 _ rfl rfl (frC k fl st l) (by kernel_rfl) ?_)
  intro b0 w0 hg0 ha0 hb0
  obtain ⟨c0, c1, c2, c3⟩ := frC_cells ha0
  have HB := hid' hb0
  clear ha0 hb0
  go_wp2
  go_ret2
  exact ⟨rfl, HB.out⟩

set_option maxHeartbeats 2000000 in
set_option maxRecDepth 20000 in
theorem rwrite_no1 (k fl st : Int) (l : List UInt8) (q0 : ¬ k < 0) (q1 : 255 < k) (w : World) : Calls Try.prog 13 #[.agg (frC k fl st l)] w fun e w' => e = .returned (.tuple #[.string ⟨#[]⟩, .int .i64 5]) ∧ Below w.heap.size w w' := by
  have d0 : decide (k < 0) = false := decide_eq_false (by omega)
  have d1 : decide ((255 : Int) < k) = true := decide_eq_true (by omega)
  clear q0 q1
  go_enter Try.func13, Try.ntmps13
  go_wp2_with (refine wpl_box 23 _ rfl rfl (frC k fl st l) (by kernel_rfl) ?_)
  intro b0 w0 hg0 ha0 hb0
  obtain ⟨c0, c1, c2, c3⟩ := frC_cells ha0
  have HB := hid' hb0
  clear ha0 hb0
  go_wp2
  go_ret2
  exact ⟨rfl, HB.out⟩

set_option maxHeartbeats 2000000 in
set_option maxRecDepth 20000 in
theorem rwrite_no2 (k fl st : Int) (l : List UInt8) (q0 : ¬ k < 0) (q1 : ¬ 255 < k) (q2 : fl < 0) (w : World) : Calls Try.prog 13 #[.agg (frC k fl st l)] w fun e w' => e = .returned (.tuple #[.string ⟨#[]⟩, .int .i64 5]) ∧ Below w.heap.size w w' := by
  have d0 : decide (k < 0) = false := decide_eq_false (by omega)
  have d1 : decide ((255 : Int) < k) = false := decide_eq_false (by omega)
  have d2 : decide (fl < 0) = true := decide_eq_true (by omega)
  clear q0 q1 q2
  go_enter Try.func13, Try.ntmps13
  go_wp2_with (refine wpl_box 23 _ rfl rfl (frC k fl st l) (by kernel_rfl) ?_)
  intro b0 w0 hg0 ha0 hb0
  obtain ⟨c0, c1, c2, c3⟩ := frC_cells ha0
  have HB := hid' hb0
  clear ha0 hb0
  go_wp2
  go_ret2
  exact ⟨rfl, HB.out⟩

set_option maxHeartbeats 2000000 in
set_option maxRecDepth 20000 in
theorem rwrite_no3 (k fl st : Int) (l : List UInt8) (q0 : ¬ k < 0) (q1 : ¬ 255 < k) (q2 : ¬ fl < 0) (q3 : 255 < fl) (w : World) : Calls Try.prog 13 #[.agg (frC k fl st l)] w fun e w' => e = .returned (.tuple #[.string ⟨#[]⟩, .int .i64 5]) ∧ Below w.heap.size w w' := by
  have d0 : decide (k < 0) = false := decide_eq_false (by omega)
  have d1 : decide ((255 : Int) < k) = false := decide_eq_false (by omega)
  have d2 : decide (fl < 0) = false := decide_eq_false (by omega)
  have d3 : decide ((255 : Int) < fl) = true := decide_eq_true (by omega)
  clear q0 q1 q2 q3
  go_enter Try.func13, Try.ntmps13
  go_wp2_with (refine wpl_box 23 _ rfl rfl (frC k fl st l) (by kernel_rfl) ?_)
  intro b0 w0 hg0 ha0 hb0
  obtain ⟨c0, c1, c2, c3⟩ := frC_cells ha0
  have HB := hid' hb0
  clear ha0 hb0
  go_wp2
  go_ret2
  exact ⟨rfl, HB.out⟩

set_option maxHeartbeats 2000000 in
set_option maxRecDepth 20000 in
theorem rwrite_no4 (k fl st : Int) (l : List UInt8) (q0 : ¬ k < 0) (q1 : ¬ 255 < k) (q2 : ¬ fl < 0) (q3 : ¬ 255 < fl) (q4 : st < 0) (w : World) : Calls Try.prog 13 #[.agg (frC k fl st l)] w fun e w' => e = .returned (.tuple #[.string ⟨#[]⟩, .int .i64 5]) ∧ Below w.heap.size w w' := by
  have d0 : decide (k < 0) = false := decide_eq_false (by omega)
  have d1 : decide ((255 : Int) < k) = false := decide_eq_false (by omega)
  have d2 : decide (fl < 0) = false := decide_eq_false (by omega)
  have d3 : decide ((255 : Int) < fl) = false := decide_eq_false (by omega)
  have d4 : decide (st < 0) = true := decide_eq_true (by omega)
  clear q0 q1 q2 q3 q4
  go_enter Try.func13, Try.ntmps13
  go_wp2_with (refine wpl_box 23 _ rfl rfl (frC k fl st l) (by kernel_rfl) ?_)
  intro b0 w0 hg0 ha0 hb0
  obtain ⟨c0, c1, c2, c3⟩ := frC_cells ha0
  have HB := hid' hb0
  clear ha0 hb0
  go_wp2
  go_ret2
  exact ⟨rfl, HB.out⟩

set_option maxHeartbeats 2000000 in
set_option maxRecDepth 20000 in
theorem rwrite_no5 (k fl st : Int) (l : List UInt8) (q0 : ¬ k < 0) (q1 : ¬ 255 < k) (q2 : ¬ fl < 0) (q3 : ¬ 255 < fl) (q4 : ¬ st < 0) (q5 : 2147483647 < st) (w : World) : Calls Try.prog 13 #[.agg (frC k fl st l)] w fun e w' => e = .returned (.tuple #[.string ⟨#[]⟩, .int .i64 5]) ∧ Below w.heap.size w w' := by
  have d0 : decide (k < 0) = false := decide_eq_false (by omega)
  have d1 : decide ((255 : Int) < k) = false := decide_eq_false (by omega)
  have d2 : decide (fl < 0) = false := decide_eq_false (by omega)
  have d3 : decide ((255 : Int) < fl) = false := decide_eq_false (by omega)
  have d4 : decide (st < 0) = false := decide_eq_false (by omega)
  have d5 : decide ((2147483647 : Int) < st) = true := decide_eq_true (by omega)
  clear q0 q1 q2 q3 q4 q5
  go_enter Try.func13, Try.ntmps13
  go_wp2_with (refine wpl_box 23 _ rfl rfl (frC k fl st l) (by kernel_rfl) ?_)
  intro b0 w0 hg0 ha0 hb0
  obtain ⟨c0, c1, c2, c3⟩ := frC_cells ha0
  have HB := hid' hb0
  clear ha0 hb0
  go_wp2
  go_ret2
  exact ⟨rfl, HB.out⟩

set_option maxHeartbeats 2000000 in
set_option maxRecDepth 20000 in
theorem rwrite_long (k fl st : Int) (l : List UInt8) (hk : 0 ≤ k ∧ k ≤ 255) (hf : 0 ≤ fl ∧ fl ≤ 255) (hs : 0 ≤ st ∧ st ≤ 2147483647) (hl : 16777215 < l.length) (w : World) : Calls Try.prog 13 #[.agg (frC k fl st l)] w fun e w' => e = .returned (.tuple #[.string ⟨#[]⟩, .int .i64 3]) ∧ Below w.heap.size w w' := by
  have dl : decide ((16777215 : Int) < (l.length : Int)) = true := decide_eq_true (by omega)
  have d0 : decide (k < 0) = false := decide_eq_false (by omega)
  have d1 : decide ((255 : Int) < k) = false := decide_eq_false (by omega)
  have d2 : decide (fl < 0) = false := decide_eq_false (by omega)
  have d3 : decide ((255 : Int) < fl) = false := decide_eq_false (by omega)
  have d4 : decide (st < 0) = false := decide_eq_false (by omega)
  have d5 : decide ((2147483647 : Int) < st) = false := decide_eq_false (by omega)
  go_enter Try.func13, Try.ntmps13
  go_wp2_with (refine wpl_box 23 _ rfl rfl (frC k fl st l) (by kernel_rfl) ?_)
  intro b0 w0 hg0 ha0 hb0
  obtain ⟨c0, c1, c2, c3⟩ := frC_cells ha0
  have HB := hid' hb0
  have HA := hid' ha0
  clear ha0 hb0
  clear hk hf hs hl
  go_wp2
  go_ret2
  exact ⟨rfl, HB.out⟩

/-- A contract that is known for every world, at one. -/
theorem rwr_any (x y : Value) (s : List UInt8) (w : World) (h : ∀ w : World, Calls Try.prog 26 #[x, y] w fun e w' => e = .returned (.string ⟨s.toArray⟩) ∧ Below w.heap.size w w') : Calls Try.prog 26 #[x, y] w fun e w' => e = .returned (.string ⟨s.toArray⟩) ∧ Below w.heap.size w w' := h w

set_option maxHeartbeats 8000000 in
set_option maxRecDepth 20000 in
theorem rwrite_ok (k fl st : Int) (l : List UInt8) (hk : 0 ≤ k ∧ k ≤ 255) (hf : 0 ≤ fl ∧ fl ≤ 255) (hs : 0 ≤ st ∧ st ≤ 2147483647) (hl : l.length ≤ 16777215) (w : World) : Calls Try.prog 13 #[.agg (frC k fl st l)] w fun e w' => e = .returned (.tuple #[.string ⟨(Fm.wr k fl st l).toArray⟩, .int .i64 0]) ∧ Below w.heap.size w w' := by
  have dl : decide ((16777215 : Int) < (l.length : Int)) = false := decide_eq_false (by omega)
  obtain ⟨k0, k1⟩ := hk
  obtain ⟨f0, f1⟩ := hf
  obtain ⟨s0, s1'⟩ := hs
  obtain ⟨a, ha⟩ : ∃ a, Fm.enc 3 (l.length : Int) = a := ⟨_, rfl⟩
  obtain ⟨b, hb⟩ : ∃ a, Fm.enc 1 k = a := ⟨_, rfl⟩
  obtain ⟨c, hc⟩ : ∃ a, Fm.enc 1 fl = a := ⟨_, rfl⟩
  obtain ⟨d, hd⟩ : ∃ a, Fm.enc 4 st = a := ⟨_, rfl⟩
  have hal : a.length = 3 := by rw [← ha]; exact Fm.enc_length _ _
  have hbl : b.length = 1 := by rw [← hb]; exact Fm.enc_length _ _
  have hcl : c.length = 1 := by rw [← hc]; exact Fm.enc_length _ _
  have hdl : d.length = 4 := by rw [← hd]; exact Fm.enc_length _ _
  have E1 : Hid (Fm.enc (Int.toNat 3) (l.length : Int) = a) := hid' ha
  have E2 : Hid (Fm.enc (Int.toNat 1) k = b) := hid' hb
  have E3 : Hid (Fm.enc (Int.toNat 1) fl = c) := hid' hc
  have E4 : Hid (Fm.enc (Int.toNat 4) st = d) := hid' hd
  have HWR : Hid (Fm.wr k fl st l = a ++ b ++ c ++ d ++ l) := hid' (by
    rw [← ha, ← hb, ← hc, ← hd, Fm.enc1, Fm.enc1]; simp [Fm.wr])
  obtain ⟨s1, hs1⟩ : ∃ s, a ++ b = s := ⟨_, rfl⟩
  obtain ⟨s2, hs2⟩ : ∃ s, s1 ++ c = s := ⟨_, rfl⟩
  obtain ⟨s3, hs3⟩ : ∃ s, s2 ++ d = s := ⟨_, rfl⟩
  obtain ⟨s4, hs4⟩ : ∃ s, s3 ++ l = s := ⟨_, rfl⟩
  have j1 := str_cat a b
  have j2 := str_cat s1 c
  have j3 := str_cat s2 d
  have j4 := str_cat s3 l
  rw [hs1] at j1
  rw [hs2] at j2
  rw [hs3] at j3
  rw [hs4] at j4
  have l1 : s1.length = 4 := by rw [← hs1, List.length_append]; omega
  have l2 : s2.length = 5 := by rw [← hs2, List.length_append]; omega
  have l3 : s3.length = 9 := by rw [← hs3, List.length_append]; omega
  rw [HWR.out, hs1, hs2, hs3, hs4]
  have HE : Hid (4 = 4) := hid' rfl
  clear ha hb hc hd HWR HE
  have d0 : decide (k < 0) = false := decide_eq_false (by omega)
  have d1 : decide ((255 : Int) < k) = false := decide_eq_false (by omega)
  have d2 : decide (fl < 0) = false := decide_eq_false (by omega)
  have d3 : decide ((255 : Int) < fl) = false := decide_eq_false (by omega)
  have d4 : decide (st < 0) = false := decide_eq_false (by omega)
  have d5 : decide ((2147483647 : Int) < st) = false := decide_eq_false (by omega)
  go_enter Try.func13, Try.ntmps13
  go_wp2_with (refine wpl_box 23 _ rfl rfl (frC k fl st l) (by kernel_rfl) ?_)
  intro b0 w0 hg0 ha0 hb0
  obtain ⟨c0, c1, c2, c3⟩ := frC_cells ha0
  have HB := hid' hb0
  have HA := hid' ha0
  clear ha0 hb0
  clear hs1 hs2 hs3 hs4
  have sOf : ∀ W W1 : World, (Below w0.heap.size w0 W ∧ W.cell? ⟨b0, 0, none⟩ = some (.int .i64 k) ∧ W.cell? ⟨b0, 1, none⟩ = some (.int .i64 fl) ∧ W.cell? ⟨b0, 2, none⟩ = some (.int .i64 st) ∧ W.cell? ⟨b0, 3, none⟩ = some (.string ⟨l.toArray⟩)) → Below W.heap.size W W1 → (Below w0.heap.size w0 W1 ∧ W1.cell? ⟨b0, 0, none⟩ = some (.int .i64 k) ∧ W1.cell? ⟨b0, 1, none⟩ = some (.int .i64 fl) ∧ W1.cell? ⟨b0, 2, none⟩ = some (.int .i64 st) ∧ W1.cell? ⟨b0, 3, none⟩ = some (.string ⟨l.toArray⟩)) := fun W W1 h hb => ⟨below_two h.1 hb, frC_cells (HA.out.keep (below_two h.1 hb))⟩
  have hS : Below w0.heap.size w0 w0 ∧ w0.cell? ⟨b0, 0, none⟩ = some (.int .i64 k) ∧ w0.cell? ⟨b0, 1, none⟩ = some (.int .i64 fl) ∧ w0.cell? ⟨b0, 2, none⟩ = some (.int .i64 st) ∧ w0.cell? ⟨b0, 3, none⟩ = some (.string ⟨l.toArray⟩) := ⟨Below.refl _ _, c0, c1, c2, c3⟩
  have hsum5 : (9223372036854775807 < 9 + l.length) = False := eq_false (by omega)
  have hll : (l.length : Int) ≤ 16777215 := by omega
  go_upto_region 5 with fail
  go_region_held3 (fun W => Below w0.heap.size w0 W ∧ W.cell? ⟨b0, 0, none⟩ = some (.int .i64 k) ∧ W.cell? ⟨b0, 1, none⟩ = some (.int .i64 fl) ∧ W.cell? ⟨b0, 2, none⟩ = some (.int .i64 st) ∧ W.cell? ⟨b0, 3, none⟩ = some (.string ⟨l.toArray⟩))
    (first | assumption | exact sOf _ _ (by assumption) (by assumption) | exact sOf _ _ (by assumption) ((Below.refl _ _).drew))
    (first | (go_at_call 26; refine (rwritten_any _ _ ?_ ?_ ?_ _).mono ?_; omega; omega; omega; rintro e w5 ⟨rfl, hb5⟩; (first | rw [E1.out] | rw [E2.out] | rw [E3.out] | rw [E4.out])))
  have HBB : Hid (Below w.heap.size w w5) := hid' (below_two HB.out (And.left (by assumption : Below w0.heap.size w0 w5 ∧ w5.cell? ⟨b0, 0, none⟩ = some (.int .i64 k) ∧ w5.cell? ⟨b0, 1, none⟩ = some (.int .i64 fl) ∧ w5.cell? ⟨b0, 2, none⟩ = some (.int .i64 st) ∧ w5.cell? ⟨b0, 3, none⟩ = some (.string ⟨l.toArray⟩))))
  clear hb5 sOf hS
  go_wp2
  go_ret2
  exact ⟨rfl, HBB.out⟩

theorem rwrite_any (k fl st : Int) (l : List UInt8) (r : Int) (hr : Fm.unw k fl st l.length = r) (s : List UInt8) (hs : (if r = 0 then Fm.wr k fl st l else []) = s) (w : World) : Calls Try.prog 13 #[.agg (frC k fl st l)] w fun e w' => e = .returned (.tuple #[.string ⟨s.toArray⟩, .int .i64 r]) ∧ Below w.heap.size w w' := by
  unfold Fm.unw at hr
  by_cases q0 : k < 0
  · have hm : Fm.may k fl st = false := by unfold Fm.may; exact decide_eq_false (by omega)
    rw [hm, if_neg (by decide)] at hr
    subst hr
    subst hs
    exact rwrite_no0 k fl st l q0 w
  by_cases q1 : 255 < k
  · have hm : Fm.may k fl st = false := by unfold Fm.may; exact decide_eq_false (by omega)
    rw [hm, if_neg (by decide)] at hr
    subst hr
    subst hs
    exact rwrite_no1 k fl st l q0 q1 w
  by_cases q2 : fl < 0
  · have hm : Fm.may k fl st = false := by unfold Fm.may; exact decide_eq_false (by omega)
    rw [hm, if_neg (by decide)] at hr
    subst hr
    subst hs
    exact rwrite_no2 k fl st l q0 q1 q2 w
  by_cases q3 : 255 < fl
  · have hm : Fm.may k fl st = false := by unfold Fm.may; exact decide_eq_false (by omega)
    rw [hm, if_neg (by decide)] at hr
    subst hr
    subst hs
    exact rwrite_no3 k fl st l q0 q1 q2 q3 w
  by_cases q4 : st < 0
  · have hm : Fm.may k fl st = false := by unfold Fm.may; exact decide_eq_false (by omega)
    rw [hm, if_neg (by decide)] at hr
    subst hr
    subst hs
    exact rwrite_no4 k fl st l q0 q1 q2 q3 q4 w
  by_cases q5 : 2147483647 < st
  · have hm : Fm.may k fl st = false := by unfold Fm.may; exact decide_eq_false (by omega)
    rw [hm, if_neg (by decide)] at hr
    subst hr
    subst hs
    exact rwrite_no5 k fl st l q0 q1 q2 q3 q4 q5 w
  have hm : Fm.may k fl st = true := by unfold Fm.may; exact decide_eq_true (by omega)
  rw [hm, if_pos rfl] at hr
  by_cases hl : 16777215 < l.length
  · rw [if_pos hl] at hr
    subst hr
    subst hs
    exact rwrite_long k fl st l (by omega) (by omega) (by omega) hl w
  · rw [if_neg hl] at hr
    subst hr
    subst hs
    exact rwrite_ok k fl st l (by omega) (by omega) (by omega) (by omega) w

end Go.Proofs.Ytfccbeijibhnhaa
