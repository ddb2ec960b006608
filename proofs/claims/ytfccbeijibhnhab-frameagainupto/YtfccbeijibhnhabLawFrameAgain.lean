/-
  FrameAgain, by its contract.
-/
import Derived.Test.YtfccbeijibhnhabFrAg
import Derived.Test.YtfccbeijibhnhabFrSm
namespace Go.Proofs.Ytfccbeijibhnhab
open Go.RowKit

theorem Fm.sets_data (n : Nat) (l : List UInt8) (acc : List (Int × Int)) (p : Fm.Pt) (h : Fm.sets n l acc = .ok p) : p.data = [] := by
  induction n generalizing l acc with
  | zero => simp only [Fm.sets] at h; injection h with h; subst h; rfl
  | succ n ih =>
    simp only [Fm.sets] at h
    split at h
    · exact ih _ _ h
    · cases h
theorem Fm.parse_data {k fl st : Int} {l : List UInt8} {p : Fm.Pt} (h : Fm.parse k fl st l = .ok p) : p.data.length ≤ l.length := by
  obtain ⟨_, _, hs⟩ := Fm.parse_ok h
  by_cases hk : k = 4
  · subst hk
    have h2 : Fm.sets (l.length / 6) l [] = .ok p := by rw [← hs]; simp [Fm.say]
    rw [Fm.sets_data _ _ _ _ h2]; simp
  · unfold Fm.say at hs
    simp only [hk, if_false] at hs
    repeat' (split at hs)
    all_goals (first | (injection hs with hs; subst hs; simp [Fm.prio, Fm.none']; try omega) | cases hs)

set_option maxHeartbeats 4000000 in
set_option maxRecDepth 20000 in
theorem fagain_bad (k fl st : Int) (l : List UInt8) (c : Bool) (ec : Int) (hp : Fm.parse k fl st l = .bad c ec) (hl : l.length ≤ 1048576) (w : World) : Calls Try.prog 4 #[.agg (frC k fl st l)] w fun e w' => e = .returned (.bool true) ∧ Below w.heap.size w w' := by
  have HP : Hid (∀ w : World, Calls Try.prog 8 #[.agg (frC k fl st l)] w fun e w' => e = .returned (.tuple #[.agg ptZ, .agg (wgC true c ec)]) ∧ Below w.heap.size w w') := hid' (fun w => cparse_bad k fl st l c ec hp (by omega) w)
  clear hp
  go_enter Try.func4, Try.ntmps4
  go_wp2_with (refine wpl_box 29 _ rfl rfl (frC k fl st l) (by kernel_rfl) ?_)
  intro b0 w0 hg0 ha0 hb0
  obtain ⟨c0, c1, c2, c3⟩ := frC_cells ha0
  have HB0 := hid' hb0
  have HA0 := hid' ha0
  clear ha0 hb0
  go_wp2_with fail
  refine (HP.out _).mono ?_
  rintro e w1 ⟨rfl, hb1⟩
  have HB1 := hid' (below_two HB0.out hb1)
  clear hb1
  go_wp2_with (refine wpl_open2 rfl rfl rfl rfl ?_)
  intro b3 b4 w2 hg3 hg4 ha3 ha4 hb2
  refine wpl_st2 _ _ _ _ rfl rfl rfl rfl w1.heap.size b3 b4 Fm.none' none 0 0 true c ec (by kernel_rfl) (by kernel_rfl) (by kernel_rfl) (by kernel_rfl) ha3 ha4 hg3 hg4 ?_
  intro w3 hp3 hw3 hb3
  have HB3 := hid' (below_two HB1.out (hb2.trans hb3))
  obtain ⟨z0, z1, z2⟩ := wg_cells hw3
  clear hg3 hg4 ha3 ha4 hb2 hp3 hw3 hb3 c0 c1 c2 c3
  go_wp2_with fail
  refine (awake7 _).mono ?_
  rintro e w4 ⟨rfl, hb4⟩
  have HB4 := hid' (below_two HB3.out hb4)
  clear hb4
  go_wp2
  go_ret
  exact ⟨rfl, HB4.out⟩

set_option maxHeartbeats 4000000 in
set_option maxRecDepth 20000 in
theorem fagain_k0 (k fl st : Int) (l : List UInt8) (p : Fm.Pt) (hp : Fm.parse k fl st l = .ok p) (hl : l.length ≤ 1048576) (hk : k < 0) (w : World) : Calls Try.prog 4 #[.agg (frC k fl st l)] w fun e w' => e = .returned (.bool true) ∧ Below w.heap.size w w' := by
  have HP : Hid (∀ w : World, Calls Try.prog 8 #[.agg (frC k fl st l)] w fun e w' => (∃ v, e = .returned (.tuple #[.agg (ptC p v), .agg wgZ]) ∧ Hid (SP w.heap.size w' (.ok p) v)) ∧ Below w.heap.size w w') := hid' (fun w => cparse_ok k fl st l p hp (by have := Fm.parse_data hp; omega) (by omega) w)
  have d_k0 : decide (k < 0) = true := decide_eq_true (by omega)
  clear hp hk
  go_enter Try.func4, Try.ntmps4
  go_wp2_with (refine wpl_box 29 _ rfl rfl (frC k fl st l) (by kernel_rfl) ?_)
  intro b0 w0 hg0 ha0 hb0
  obtain ⟨c0, c1, c2, c3⟩ := frC_cells ha0
  have HB0 := hid' hb0
  have HA0 := hid' ha0
  clear ha0 hb0
  go_wp2_with fail
  refine (HP.out _).mono ?_
  rintro e w1 ⟨⟨u, rfl, hu⟩, hb1⟩
  have hq := hu.out _ rfl
  obtain ⟨bo, cap', hsh⟩ := (SR.of_own hq).shape
  subst hsh
  have HQ1 := hid' (SR.of_own hq)
  have HB1 := hid' (below_two HB0.out hb1)
  have HA1 := hid' (HA0.out.keep hb1)
  clear hb1 hu hq c0 c1 c2 c3
  go_wp2_with (refine wpl_open2 rfl rfl rfl rfl ?_)
  intro b3 b4 w2 hg3 hg4 ha3 ha4 hb2
  refine wpl_st2 _ _ _ _ rfl rfl rfl rfl w1.heap.size b3 b4 p bo p.sets.length cap' false false 0 (by kernel_rfl) (by kernel_rfl) (by kernel_rfl) (by kernel_rfl) ha3 ha4 hg3 hg4 ?_
  intro w3 hp3 hw3 hb3
  have hb3' := hb2.trans hb3
  have HB3 := hid' (below_two HB1.out hb3')
  have HA3 := hid' (HA1.out.keep hb3')
  have HQ3 := hid' (HQ1.out.keep hb3')
  have HP3 := hid' hp3
  obtain ⟨z0, z1, z2⟩ := wg_cells hw3
  obtain ⟨c0, c1, c2, c3⟩ := frC_cells HA3.out
  obtain ⟨x0, x1, x2, x3, x4, x5, x6, x7⟩ := pt_cells hp3
  clear hg3 hg4 ha3 ha4 hb2 hp3 hw3 hb3 hb3'
  clear x0 x1 x2 x3 x4 x5 x6 x7
  go_wp2_with fail
  refine (awake7 _).mono ?_
  rintro e w4 ⟨rfl, hb4⟩
  have HB4 := hid' (below_two HB3.out hb4)
  clear hb4
  go_wp2
  go_ret
  exact ⟨rfl, HB4.out⟩

set_option maxHeartbeats 4000000 in
set_option maxRecDepth 20000 in
theorem fagain_k16 (k fl st : Int) (l : List UInt8) (p : Fm.Pt) (hp : Fm.parse k fl st l = .ok p) (hl : l.length ≤ 1048576) (hk : 16 < k) (w : World) : Calls Try.prog 4 #[.agg (frC k fl st l)] w fun e w' => e = .returned (.bool true) ∧ Below w.heap.size w w' := by
  have HP : Hid (∀ w : World, Calls Try.prog 8 #[.agg (frC k fl st l)] w fun e w' => (∃ v, e = .returned (.tuple #[.agg (ptC p v), .agg wgZ]) ∧ Hid (SP w.heap.size w' (.ok p) v)) ∧ Below w.heap.size w w') := hid' (fun w => cparse_ok k fl st l p hp (by have := Fm.parse_data hp; omega) (by omega) w)
  have d_k0 : decide (k < 0) = false := decide_eq_false (by omega)
  have d_k16 : decide ((16 : Int) < k) = true := decide_eq_true (by omega)
  clear hp hk
  go_enter Try.func4, Try.ntmps4
  go_wp2_with (refine wpl_box 29 _ rfl rfl (frC k fl st l) (by kernel_rfl) ?_)
  intro b0 w0 hg0 ha0 hb0
  obtain ⟨c0, c1, c2, c3⟩ := frC_cells ha0
  have HB0 := hid' hb0
  have HA0 := hid' ha0
  clear ha0 hb0
  go_wp2_with fail
  refine (HP.out _).mono ?_
  rintro e w1 ⟨⟨u, rfl, hu⟩, hb1⟩
  have hq := hu.out _ rfl
  obtain ⟨bo, cap', hsh⟩ := (SR.of_own hq).shape
  subst hsh
  have HQ1 := hid' (SR.of_own hq)
  have HB1 := hid' (below_two HB0.out hb1)
  have HA1 := hid' (HA0.out.keep hb1)
  clear hb1 hu hq c0 c1 c2 c3
  go_wp2_with (refine wpl_open2 rfl rfl rfl rfl ?_)
  intro b3 b4 w2 hg3 hg4 ha3 ha4 hb2
  refine wpl_st2 _ _ _ _ rfl rfl rfl rfl w1.heap.size b3 b4 p bo p.sets.length cap' false false 0 (by kernel_rfl) (by kernel_rfl) (by kernel_rfl) (by kernel_rfl) ha3 ha4 hg3 hg4 ?_
  intro w3 hp3 hw3 hb3
  have hb3' := hb2.trans hb3
  have HB3 := hid' (below_two HB1.out hb3')
  have HA3 := hid' (HA1.out.keep hb3')
  have HQ3 := hid' (HQ1.out.keep hb3')
  have HP3 := hid' hp3
  obtain ⟨z0, z1, z2⟩ := wg_cells hw3
  obtain ⟨c0, c1, c2, c3⟩ := frC_cells HA3.out
  obtain ⟨x0, x1, x2, x3, x4, x5, x6, x7⟩ := pt_cells hp3
  clear hg3 hg4 ha3 ha4 hb2 hp3 hw3 hb3 hb3'
  clear x0 x1 x2 x3 x4 x5 x6 x7
  go_wp2_with fail
  refine (awake7 _).mono ?_
  rintro e w4 ⟨rfl, hb4⟩
  have HB4 := hid' (below_two HB3.out hb4)
  clear hb4
  go_wp2
  go_ret
  exact ⟨rfl, HB4.out⟩

set_option maxHeartbeats 4000000 in
set_option maxRecDepth 20000 in
theorem fagain_k9 (k fl st : Int) (l : List UInt8) (p : Fm.Pt) (hp : Fm.parse k fl st l = .ok p) (hl : l.length ≤ 1048576) (hk : 9 < k ∧ k < 16) (w : World) : Calls Try.prog 4 #[.agg (frC k fl st l)] w fun e w' => e = .returned (.bool true) ∧ Below w.heap.size w w' := by
  have HP : Hid (∀ w : World, Calls Try.prog 8 #[.agg (frC k fl st l)] w fun e w' => (∃ v, e = .returned (.tuple #[.agg (ptC p v), .agg wgZ]) ∧ Hid (SP w.heap.size w' (.ok p) v)) ∧ Below w.heap.size w w') := hid' (fun w => cparse_ok k fl st l p hp (by have := Fm.parse_data hp; omega) (by omega) w)
  have d_k0 : decide (k < 0) = false := decide_eq_false (by omega)
  have d_k16 : decide ((16 : Int) < k) = false := decide_eq_false (by omega)
  have d_k9 : decide ((9 : Int) < k) = true := decide_eq_true (by omega)
  have d_kl : decide (k < 16) = true := decide_eq_true (by omega)
  clear hp hk
  go_enter Try.func4, Try.ntmps4
  go_wp2_with (refine wpl_box 29 _ rfl rfl (frC k fl st l) (by kernel_rfl) ?_)
  intro b0 w0 hg0 ha0 hb0
  obtain ⟨c0, c1, c2, c3⟩ := frC_cells ha0
  have HB0 := hid' hb0
  have HA0 := hid' ha0
  clear ha0 hb0
  go_wp2_with fail
  refine (HP.out _).mono ?_
  rintro e w1 ⟨⟨u, rfl, hu⟩, hb1⟩
  have hq := hu.out _ rfl
  obtain ⟨bo, cap', hsh⟩ := (SR.of_own hq).shape
  subst hsh
  have HQ1 := hid' (SR.of_own hq)
  have HB1 := hid' (below_two HB0.out hb1)
  have HA1 := hid' (HA0.out.keep hb1)
  clear hb1 hu hq c0 c1 c2 c3
  go_wp2_with (refine wpl_open2 rfl rfl rfl rfl ?_)
  intro b3 b4 w2 hg3 hg4 ha3 ha4 hb2
  refine wpl_st2 _ _ _ _ rfl rfl rfl rfl w1.heap.size b3 b4 p bo p.sets.length cap' false false 0 (by kernel_rfl) (by kernel_rfl) (by kernel_rfl) (by kernel_rfl) ha3 ha4 hg3 hg4 ?_
  intro w3 hp3 hw3 hb3
  have hb3' := hb2.trans hb3
  have HB3 := hid' (below_two HB1.out hb3')
  have HA3 := hid' (HA1.out.keep hb3')
  have HQ3 := hid' (HQ1.out.keep hb3')
  have HP3 := hid' hp3
  obtain ⟨z0, z1, z2⟩ := wg_cells hw3
  obtain ⟨c0, c1, c2, c3⟩ := frC_cells HA3.out
  obtain ⟨x0, x1, x2, x3, x4, x5, x6, x7⟩ := pt_cells hp3
  clear hg3 hg4 ha3 ha4 hb2 hp3 hw3 hb3 hb3'
  clear x0 x1 x2 x3 x4 x5 x6 x7
  go_wp2_with fail
  refine (awake7 _).mono ?_
  rintro e w4 ⟨rfl, hb4⟩
  have HB4 := hid' (below_two HB3.out hb4)
  clear hb4
  go_wp2
  go_ret
  exact ⟨rfl, HB4.out⟩

set_option maxHeartbeats 4000000 in
set_option maxRecDepth 20000 in
theorem fagain_Af0 (k fl st : Int) (l : List UInt8) (p : Fm.Pt) (hp : Fm.parse k fl st l = .ok p) (hl : l.length ≤ 1048576) (hk : 0 ≤ k ∧ k ≤ 9) (hf0 : fl < 0) (w : World) : Calls Try.prog 4 #[.agg (frC k fl st l)] w fun e w' => e = .returned (.bool true) ∧ Below w.heap.size w w' := by
  have HP : Hid (∀ w : World, Calls Try.prog 8 #[.agg (frC k fl st l)] w fun e w' => (∃ v, e = .returned (.tuple #[.agg (ptC p v), .agg wgZ]) ∧ Hid (SP w.heap.size w' (.ok p) v)) ∧ Below w.heap.size w w') := hid' (fun w => cparse_ok k fl st l p hp (by have := Fm.parse_data hp; omega) (by omega) w)
  have d_k0 : decide (k < 0) = false := decide_eq_false (by omega)
  have d_k16 : decide ((16 : Int) < k) = false := decide_eq_false (by omega)
  have d_k9 : decide ((9 : Int) < k) = false := decide_eq_false (by omega)
  have d_f0 : decide (fl < 0) = true := decide_eq_true (by omega)
  clear hp hk hf0
  go_enter Try.func4, Try.ntmps4
  go_wp2_with (refine wpl_box 29 _ rfl rfl (frC k fl st l) (by kernel_rfl) ?_)
  intro b0 w0 hg0 ha0 hb0
  obtain ⟨c0, c1, c2, c3⟩ := frC_cells ha0
  have HB0 := hid' hb0
  have HA0 := hid' ha0
  clear ha0 hb0
  go_wp2_with fail
  refine (HP.out _).mono ?_
  rintro e w1 ⟨⟨u, rfl, hu⟩, hb1⟩
  have hq := hu.out _ rfl
  obtain ⟨bo, cap', hsh⟩ := (SR.of_own hq).shape
  subst hsh
  have HQ1 := hid' (SR.of_own hq)
  have HB1 := hid' (below_two HB0.out hb1)
  have HA1 := hid' (HA0.out.keep hb1)
  clear hb1 hu hq c0 c1 c2 c3
  go_wp2_with (refine wpl_open2 rfl rfl rfl rfl ?_)
  intro b3 b4 w2 hg3 hg4 ha3 ha4 hb2
  refine wpl_st2 _ _ _ _ rfl rfl rfl rfl w1.heap.size b3 b4 p bo p.sets.length cap' false false 0 (by kernel_rfl) (by kernel_rfl) (by kernel_rfl) (by kernel_rfl) ha3 ha4 hg3 hg4 ?_
  intro w3 hp3 hw3 hb3
  have hb3' := hb2.trans hb3
  have HB3 := hid' (below_two HB1.out hb3')
  have HA3 := hid' (HA1.out.keep hb3')
  have HQ3 := hid' (HQ1.out.keep hb3')
  have HP3 := hid' hp3
  obtain ⟨z0, z1, z2⟩ := wg_cells hw3
  obtain ⟨c0, c1, c2, c3⟩ := frC_cells HA3.out
  obtain ⟨x0, x1, x2, x3, x4, x5, x6, x7⟩ := pt_cells hp3
  clear hg3 hg4 ha3 ha4 hb2 hp3 hw3 hb3 hb3'
  clear x0 x1 x2 x3 x4 x5 x6 x7
  go_wp2_with fail
  refine (awake7 _).mono ?_
  rintro e w4 ⟨rfl, hb4⟩
  have HB4 := hid' (below_two HB3.out hb4)
  clear hb4
  go_wp2
  go_ret
  exact ⟨rfl, HB4.out⟩

set_option maxHeartbeats 4000000 in
set_option maxRecDepth 20000 in
theorem fagain_Af1 (k fl st : Int) (l : List UInt8) (p : Fm.Pt) (hp : Fm.parse k fl st l = .ok p) (hl : l.length ≤ 1048576) (hk : 0 ≤ k ∧ k ≤ 9) (hf1 : 255 < fl) (w : World) : Calls Try.prog 4 #[.agg (frC k fl st l)] w fun e w' => e = .returned (.bool true) ∧ Below w.heap.size w w' := by
  have HP : Hid (∀ w : World, Calls Try.prog 8 #[.agg (frC k fl st l)] w fun e w' => (∃ v, e = .returned (.tuple #[.agg (ptC p v), .agg wgZ]) ∧ Hid (SP w.heap.size w' (.ok p) v)) ∧ Below w.heap.size w w') := hid' (fun w => cparse_ok k fl st l p hp (by have := Fm.parse_data hp; omega) (by omega) w)
  have d_k0 : decide (k < 0) = false := decide_eq_false (by omega)
  have d_k16 : decide ((16 : Int) < k) = false := decide_eq_false (by omega)
  have d_k9 : decide ((9 : Int) < k) = false := decide_eq_false (by omega)
  have d_f0 : decide (fl < 0) = false := decide_eq_false (by omega)
  have d_f1 : decide ((255 : Int) < fl) = true := decide_eq_true (by omega)
  clear hp hk hf1
  go_enter Try.func4, Try.ntmps4
  go_wp2_with (refine wpl_box 29 _ rfl rfl (frC k fl st l) (by kernel_rfl) ?_)
  intro b0 w0 hg0 ha0 hb0
  obtain ⟨c0, c1, c2, c3⟩ := frC_cells ha0
  have HB0 := hid' hb0
  have HA0 := hid' ha0
  clear ha0 hb0
  go_wp2_with fail
  refine (HP.out _).mono ?_
  rintro e w1 ⟨⟨u, rfl, hu⟩, hb1⟩
  have hq := hu.out _ rfl
  obtain ⟨bo, cap', hsh⟩ := (SR.of_own hq).shape
  subst hsh
  have HQ1 := hid' (SR.of_own hq)
  have HB1 := hid' (below_two HB0.out hb1)
  have HA1 := hid' (HA0.out.keep hb1)
  clear hb1 hu hq c0 c1 c2 c3
  go_wp2_with (refine wpl_open2 rfl rfl rfl rfl ?_)
  intro b3 b4 w2 hg3 hg4 ha3 ha4 hb2
  refine wpl_st2 _ _ _ _ rfl rfl rfl rfl w1.heap.size b3 b4 p bo p.sets.length cap' false false 0 (by kernel_rfl) (by kernel_rfl) (by kernel_rfl) (by kernel_rfl) ha3 ha4 hg3 hg4 ?_
  intro w3 hp3 hw3 hb3
  have hb3' := hb2.trans hb3
  have HB3 := hid' (below_two HB1.out hb3')
  have HA3 := hid' (HA1.out.keep hb3')
  have HQ3 := hid' (HQ1.out.keep hb3')
  have HP3 := hid' hp3
  obtain ⟨z0, z1, z2⟩ := wg_cells hw3
  obtain ⟨c0, c1, c2, c3⟩ := frC_cells HA3.out
  obtain ⟨x0, x1, x2, x3, x4, x5, x6, x7⟩ := pt_cells hp3
  clear hg3 hg4 ha3 ha4 hb2 hp3 hw3 hb3 hb3'
  clear x0 x1 x2 x3 x4 x5 x6 x7
  go_wp2_with fail
  refine (awake7 _).mono ?_
  rintro e w4 ⟨rfl, hb4⟩
  have HB4 := hid' (below_two HB3.out hb4)
  clear hb4
  go_wp2
  go_ret
  exact ⟨rfl, HB4.out⟩

set_option maxHeartbeats 4000000 in
set_option maxRecDepth 20000 in
theorem fagain_As0 (k fl st : Int) (l : List UInt8) (p : Fm.Pt) (hp : Fm.parse k fl st l = .ok p) (hl : l.length ≤ 1048576) (hk : 0 ≤ k ∧ k ≤ 9) (hf0 : 0 ≤ fl) (hf1 : fl ≤ 255) (hs0 : st < 0) (w : World) : Calls Try.prog 4 #[.agg (frC k fl st l)] w fun e w' => e = .returned (.bool true) ∧ Below w.heap.size w w' := by
  have HP : Hid (∀ w : World, Calls Try.prog 8 #[.agg (frC k fl st l)] w fun e w' => (∃ v, e = .returned (.tuple #[.agg (ptC p v), .agg wgZ]) ∧ Hid (SP w.heap.size w' (.ok p) v)) ∧ Below w.heap.size w w') := hid' (fun w => cparse_ok k fl st l p hp (by have := Fm.parse_data hp; omega) (by omega) w)
  have d_k0 : decide (k < 0) = false := decide_eq_false (by omega)
  have d_k16 : decide ((16 : Int) < k) = false := decide_eq_false (by omega)
  have d_k9 : decide ((9 : Int) < k) = false := decide_eq_false (by omega)
  have d_f0 : decide (fl < 0) = false := decide_eq_false (by omega)
  have d_f1 : decide ((255 : Int) < fl) = false := decide_eq_false (by omega)
  have d_s0 : decide (st < 0) = true := decide_eq_true (by omega)
  clear hp hk hf0 hf1 hs0
  go_enter Try.func4, Try.ntmps4
  go_wp2_with (refine wpl_box 29 _ rfl rfl (frC k fl st l) (by kernel_rfl) ?_)
  intro b0 w0 hg0 ha0 hb0
  obtain ⟨c0, c1, c2, c3⟩ := frC_cells ha0
  have HB0 := hid' hb0
  have HA0 := hid' ha0
  clear ha0 hb0
  go_wp2_with fail
  refine (HP.out _).mono ?_
  rintro e w1 ⟨⟨u, rfl, hu⟩, hb1⟩
  have hq := hu.out _ rfl
  obtain ⟨bo, cap', hsh⟩ := (SR.of_own hq).shape
  subst hsh
  have HQ1 := hid' (SR.of_own hq)
  have HB1 := hid' (below_two HB0.out hb1)
  have HA1 := hid' (HA0.out.keep hb1)
  clear hb1 hu hq c0 c1 c2 c3
  go_wp2_with (refine wpl_open2 rfl rfl rfl rfl ?_)
  intro b3 b4 w2 hg3 hg4 ha3 ha4 hb2
  refine wpl_st2 _ _ _ _ rfl rfl rfl rfl w1.heap.size b3 b4 p bo p.sets.length cap' false false 0 (by kernel_rfl) (by kernel_rfl) (by kernel_rfl) (by kernel_rfl) ha3 ha4 hg3 hg4 ?_
  intro w3 hp3 hw3 hb3
  have hb3' := hb2.trans hb3
  have HB3 := hid' (below_two HB1.out hb3')
  have HA3 := hid' (HA1.out.keep hb3')
  have HQ3 := hid' (HQ1.out.keep hb3')
  have HP3 := hid' hp3
  obtain ⟨z0, z1, z2⟩ := wg_cells hw3
  obtain ⟨c0, c1, c2, c3⟩ := frC_cells HA3.out
  obtain ⟨x0, x1, x2, x3, x4, x5, x6, x7⟩ := pt_cells hp3
  clear hg3 hg4 ha3 ha4 hb2 hp3 hw3 hb3 hb3'
  clear x0 x1 x2 x3 x4 x5 x6 x7
  go_wp2_with fail
  refine (awake7 _).mono ?_
  rintro e w4 ⟨rfl, hb4⟩
  have HB4 := hid' (below_two HB3.out hb4)
  clear hb4
  go_wp2
  go_ret
  exact ⟨rfl, HB4.out⟩

set_option maxHeartbeats 4000000 in
set_option maxRecDepth 20000 in
theorem fagain_As1 (k fl st : Int) (l : List UInt8) (p : Fm.Pt) (hp : Fm.parse k fl st l = .ok p) (hl : l.length ≤ 1048576) (hk : 0 ≤ k ∧ k ≤ 9) (hf0 : 0 ≤ fl) (hf1 : fl ≤ 255) (hs1 : 2147483647 < st) (w : World) : Calls Try.prog 4 #[.agg (frC k fl st l)] w fun e w' => e = .returned (.bool true) ∧ Below w.heap.size w w' := by
  have HP : Hid (∀ w : World, Calls Try.prog 8 #[.agg (frC k fl st l)] w fun e w' => (∃ v, e = .returned (.tuple #[.agg (ptC p v), .agg wgZ]) ∧ Hid (SP w.heap.size w' (.ok p) v)) ∧ Below w.heap.size w w') := hid' (fun w => cparse_ok k fl st l p hp (by have := Fm.parse_data hp; omega) (by omega) w)
  have d_k0 : decide (k < 0) = false := decide_eq_false (by omega)
  have d_k16 : decide ((16 : Int) < k) = false := decide_eq_false (by omega)
  have d_k9 : decide ((9 : Int) < k) = false := decide_eq_false (by omega)
  have d_f0 : decide (fl < 0) = false := decide_eq_false (by omega)
  have d_f1 : decide ((255 : Int) < fl) = false := decide_eq_false (by omega)
  have d_s0 : decide (st < 0) = false := decide_eq_false (by omega)
  have d_s1 : decide ((2147483647 : Int) < st) = true := decide_eq_true (by omega)
  clear hp hk hf0 hf1 hs1
  go_enter Try.func4, Try.ntmps4
  go_wp2_with (refine wpl_box 29 _ rfl rfl (frC k fl st l) (by kernel_rfl) ?_)
  intro b0 w0 hg0 ha0 hb0
  obtain ⟨c0, c1, c2, c3⟩ := frC_cells ha0
  have HB0 := hid' hb0
  have HA0 := hid' ha0
  clear ha0 hb0
  go_wp2_with fail
  refine (HP.out _).mono ?_
  rintro e w1 ⟨⟨u, rfl, hu⟩, hb1⟩
  have hq := hu.out _ rfl
  obtain ⟨bo, cap', hsh⟩ := (SR.of_own hq).shape
  subst hsh
  have HQ1 := hid' (SR.of_own hq)
  have HB1 := hid' (below_two HB0.out hb1)
  have HA1 := hid' (HA0.out.keep hb1)
  clear hb1 hu hq c0 c1 c2 c3
  go_wp2_with (refine wpl_open2 rfl rfl rfl rfl ?_)
  intro b3 b4 w2 hg3 hg4 ha3 ha4 hb2
  refine wpl_st2 _ _ _ _ rfl rfl rfl rfl w1.heap.size b3 b4 p bo p.sets.length cap' false false 0 (by kernel_rfl) (by kernel_rfl) (by kernel_rfl) (by kernel_rfl) ha3 ha4 hg3 hg4 ?_
  intro w3 hp3 hw3 hb3
  have hb3' := hb2.trans hb3
  have HB3 := hid' (below_two HB1.out hb3')
  have HA3 := hid' (HA1.out.keep hb3')
  have HQ3 := hid' (HQ1.out.keep hb3')
  have HP3 := hid' hp3
  obtain ⟨z0, z1, z2⟩ := wg_cells hw3
  obtain ⟨c0, c1, c2, c3⟩ := frC_cells HA3.out
  obtain ⟨x0, x1, x2, x3, x4, x5, x6, x7⟩ := pt_cells hp3
  clear hg3 hg4 ha3 ha4 hb2 hp3 hw3 hb3 hb3'
  clear x0 x1 x2 x3 x4 x5 x6 x7
  go_wp2_with fail
  refine (awake7 _).mono ?_
  rintro e w4 ⟨rfl, hb4⟩
  have HB4 := hid' (below_two HB3.out hb4)
  clear hb4
  go_wp2
  go_ret
  exact ⟨rfl, HB4.out⟩

set_option maxHeartbeats 4000000 in
set_option maxRecDepth 20000 in
theorem fagain_Bf0 (k fl st : Int) (l : List UInt8) (p : Fm.Pt) (hp : Fm.parse k fl st l = .ok p) (hl : l.length ≤ 1048576) (hk : k = 16) (hf0 : fl < 0) (w : World) : Calls Try.prog 4 #[.agg (frC k fl st l)] w fun e w' => e = .returned (.bool true) ∧ Below w.heap.size w w' := by
  have HP : Hid (∀ w : World, Calls Try.prog 8 #[.agg (frC k fl st l)] w fun e w' => (∃ v, e = .returned (.tuple #[.agg (ptC p v), .agg wgZ]) ∧ Hid (SP w.heap.size w' (.ok p) v)) ∧ Below w.heap.size w w') := hid' (fun w => cparse_ok k fl st l p hp (by have := Fm.parse_data hp; omega) (by omega) w)
  have d_k0 : decide (k < 0) = false := decide_eq_false (by omega)
  have d_k16 : decide ((16 : Int) < k) = false := decide_eq_false (by omega)
  have d_k9 : decide ((9 : Int) < k) = true := decide_eq_true (by omega)
  have d_kl : decide (k < 16) = false := decide_eq_false (by omega)
  have d_f0 : decide (fl < 0) = true := decide_eq_true (by omega)
  clear hp hk hf0
  go_enter Try.func4, Try.ntmps4
  go_wp2_with (refine wpl_box 29 _ rfl rfl (frC k fl st l) (by kernel_rfl) ?_)
  intro b0 w0 hg0 ha0 hb0
  obtain ⟨c0, c1, c2, c3⟩ := frC_cells ha0
  have HB0 := hid' hb0
  have HA0 := hid' ha0
  clear ha0 hb0
  go_wp2_with fail
  refine (HP.out _).mono ?_
  rintro e w1 ⟨⟨u, rfl, hu⟩, hb1⟩
  have hq := hu.out _ rfl
  obtain ⟨bo, cap', hsh⟩ := (SR.of_own hq).shape
  subst hsh
  have HQ1 := hid' (SR.of_own hq)
  have HB1 := hid' (below_two HB0.out hb1)
  have HA1 := hid' (HA0.out.keep hb1)
  clear hb1 hu hq c0 c1 c2 c3
  go_wp2_with (refine wpl_open2 rfl rfl rfl rfl ?_)
  intro b3 b4 w2 hg3 hg4 ha3 ha4 hb2
  refine wpl_st2 _ _ _ _ rfl rfl rfl rfl w1.heap.size b3 b4 p bo p.sets.length cap' false false 0 (by kernel_rfl) (by kernel_rfl) (by kernel_rfl) (by kernel_rfl) ha3 ha4 hg3 hg4 ?_
  intro w3 hp3 hw3 hb3
  have hb3' := hb2.trans hb3
  have HB3 := hid' (below_two HB1.out hb3')
  have HA3 := hid' (HA1.out.keep hb3')
  have HQ3 := hid' (HQ1.out.keep hb3')
  have HP3 := hid' hp3
  obtain ⟨z0, z1, z2⟩ := wg_cells hw3
  obtain ⟨c0, c1, c2, c3⟩ := frC_cells HA3.out
  obtain ⟨x0, x1, x2, x3, x4, x5, x6, x7⟩ := pt_cells hp3
  clear hg3 hg4 ha3 ha4 hb2 hp3 hw3 hb3 hb3'
  clear x0 x1 x2 x3 x4 x5 x6 x7
  go_wp2_with fail
  refine (awake7 _).mono ?_
  rintro e w4 ⟨rfl, hb4⟩
  have HB4 := hid' (below_two HB3.out hb4)
  clear hb4
  go_wp2
  go_ret
  exact ⟨rfl, HB4.out⟩

set_option maxHeartbeats 4000000 in
set_option maxRecDepth 20000 in
theorem fagain_Bf1 (k fl st : Int) (l : List UInt8) (p : Fm.Pt) (hp : Fm.parse k fl st l = .ok p) (hl : l.length ≤ 1048576) (hk : k = 16) (hf1 : 255 < fl) (w : World) : Calls Try.prog 4 #[.agg (frC k fl st l)] w fun e w' => e = .returned (.bool true) ∧ Below w.heap.size w w' := by
  have HP : Hid (∀ w : World, Calls Try.prog 8 #[.agg (frC k fl st l)] w fun e w' => (∃ v, e = .returned (.tuple #[.agg (ptC p v), .agg wgZ]) ∧ Hid (SP w.heap.size w' (.ok p) v)) ∧ Below w.heap.size w w') := hid' (fun w => cparse_ok k fl st l p hp (by have := Fm.parse_data hp; omega) (by omega) w)
  have d_k0 : decide (k < 0) = false := decide_eq_false (by omega)
  have d_k16 : decide ((16 : Int) < k) = false := decide_eq_false (by omega)
  have d_k9 : decide ((9 : Int) < k) = true := decide_eq_true (by omega)
  have d_kl : decide (k < 16) = false := decide_eq_false (by omega)
  have d_f0 : decide (fl < 0) = false := decide_eq_false (by omega)
  have d_f1 : decide ((255 : Int) < fl) = true := decide_eq_true (by omega)
  clear hp hk hf1
  go_enter Try.func4, Try.ntmps4
  go_wp2_with (refine wpl_box 29 _ rfl rfl (frC k fl st l) (by kernel_rfl) ?_)
  intro b0 w0 hg0 ha0 hb0
  obtain ⟨c0, c1, c2, c3⟩ := frC_cells ha0
  have HB0 := hid' hb0
  have HA0 := hid' ha0
  clear ha0 hb0
  go_wp2_with fail
  refine (HP.out _).mono ?_
  rintro e w1 ⟨⟨u, rfl, hu⟩, hb1⟩
  have hq := hu.out _ rfl
  obtain ⟨bo, cap', hsh⟩ := (SR.of_own hq).shape
  subst hsh
  have HQ1 := hid' (SR.of_own hq)
  have HB1 := hid' (below_two HB0.out hb1)
  have HA1 := hid' (HA0.out.keep hb1)
  clear hb1 hu hq c0 c1 c2 c3
  go_wp2_with (refine wpl_open2 rfl rfl rfl rfl ?_)
  intro b3 b4 w2 hg3 hg4 ha3 ha4 hb2
  refine wpl_st2 _ _ _ _ rfl rfl rfl rfl w1.heap.size b3 b4 p bo p.sets.length cap' false false 0 (by kernel_rfl) (by kernel_rfl) (by kernel_rfl) (by kernel_rfl) ha3 ha4 hg3 hg4 ?_
  intro w3 hp3 hw3 hb3
  have hb3' := hb2.trans hb3
  have HB3 := hid' (below_two HB1.out hb3')
  have HA3 := hid' (HA1.out.keep hb3')
  have HQ3 := hid' (HQ1.out.keep hb3')
  have HP3 := hid' hp3
  obtain ⟨z0, z1, z2⟩ := wg_cells hw3
  obtain ⟨c0, c1, c2, c3⟩ := frC_cells HA3.out
  obtain ⟨x0, x1, x2, x3, x4, x5, x6, x7⟩ := pt_cells hp3
  clear hg3 hg4 ha3 ha4 hb2 hp3 hw3 hb3 hb3'
  clear x0 x1 x2 x3 x4 x5 x6 x7
  go_wp2_with fail
  refine (awake7 _).mono ?_
  rintro e w4 ⟨rfl, hb4⟩
  have HB4 := hid' (below_two HB3.out hb4)
  clear hb4
  go_wp2
  go_ret
  exact ⟨rfl, HB4.out⟩

set_option maxHeartbeats 4000000 in
set_option maxRecDepth 20000 in
theorem fagain_Bs0 (k fl st : Int) (l : List UInt8) (p : Fm.Pt) (hp : Fm.parse k fl st l = .ok p) (hl : l.length ≤ 1048576) (hk : k = 16) (hf0 : 0 ≤ fl) (hf1 : fl ≤ 255) (hs0 : st < 0) (w : World) : Calls Try.prog 4 #[.agg (frC k fl st l)] w fun e w' => e = .returned (.bool true) ∧ Below w.heap.size w w' := by
  have HP : Hid (∀ w : World, Calls Try.prog 8 #[.agg (frC k fl st l)] w fun e w' => (∃ v, e = .returned (.tuple #[.agg (ptC p v), .agg wgZ]) ∧ Hid (SP w.heap.size w' (.ok p) v)) ∧ Below w.heap.size w w') := hid' (fun w => cparse_ok k fl st l p hp (by have := Fm.parse_data hp; omega) (by omega) w)
  have d_k0 : decide (k < 0) = false := decide_eq_false (by omega)
  have d_k16 : decide ((16 : Int) < k) = false := decide_eq_false (by omega)
  have d_k9 : decide ((9 : Int) < k) = true := decide_eq_true (by omega)
  have d_kl : decide (k < 16) = false := decide_eq_false (by omega)
  have d_f0 : decide (fl < 0) = false := decide_eq_false (by omega)
  have d_f1 : decide ((255 : Int) < fl) = false := decide_eq_false (by omega)
  have d_s0 : decide (st < 0) = true := decide_eq_true (by omega)
  clear hp hk hf0 hf1 hs0
  go_enter Try.func4, Try.ntmps4
  go_wp2_with (refine wpl_box 29 _ rfl rfl (frC k fl st l) (by kernel_rfl) ?_)
  intro b0 w0 hg0 ha0 hb0
  obtain ⟨c0, c1, c2, c3⟩ := frC_cells ha0
  have HB0 := hid' hb0
  have HA0 := hid' ha0
  clear ha0 hb0
  go_wp2_with fail
  refine (HP.out _).mono ?_
  rintro e w1 ⟨⟨u, rfl, hu⟩, hb1⟩
  have hq := hu.out _ rfl
  obtain ⟨bo, cap', hsh⟩ := (SR.of_own hq).shape
  subst hsh
  have HQ1 := hid' (SR.of_own hq)
  have HB1 := hid' (below_two HB0.out hb1)
  have HA1 := hid' (HA0.out.keep hb1)
  clear hb1 hu hq c0 c1 c2 c3
  go_wp2_with (refine wpl_open2 rfl rfl rfl rfl ?_)
  intro b3 b4 w2 hg3 hg4 ha3 ha4 hb2
  refine wpl_st2 _ _ _ _ rfl rfl rfl rfl w1.heap.size b3 b4 p bo p.sets.length cap' false false 0 (by kernel_rfl) (by kernel_rfl) (by kernel_rfl) (by kernel_rfl) ha3 ha4 hg3 hg4 ?_
  intro w3 hp3 hw3 hb3
  have hb3' := hb2.trans hb3
  have HB3 := hid' (below_two HB1.out hb3')
  have HA3 := hid' (HA1.out.keep hb3')
  have HQ3 := hid' (HQ1.out.keep hb3')
  have HP3 := hid' hp3
  obtain ⟨z0, z1, z2⟩ := wg_cells hw3
  obtain ⟨c0, c1, c2, c3⟩ := frC_cells HA3.out
  obtain ⟨x0, x1, x2, x3, x4, x5, x6, x7⟩ := pt_cells hp3
  clear hg3 hg4 ha3 ha4 hb2 hp3 hw3 hb3 hb3'
  clear x0 x1 x2 x3 x4 x5 x6 x7
  go_wp2_with fail
  refine (awake7 _).mono ?_
  rintro e w4 ⟨rfl, hb4⟩
  have HB4 := hid' (below_two HB3.out hb4)
  clear hb4
  go_wp2
  go_ret
  exact ⟨rfl, HB4.out⟩

set_option maxHeartbeats 4000000 in
set_option maxRecDepth 20000 in
theorem fagain_Bs1 (k fl st : Int) (l : List UInt8) (p : Fm.Pt) (hp : Fm.parse k fl st l = .ok p) (hl : l.length ≤ 1048576) (hk : k = 16) (hf0 : 0 ≤ fl) (hf1 : fl ≤ 255) (hs1 : 2147483647 < st) (w : World) : Calls Try.prog 4 #[.agg (frC k fl st l)] w fun e w' => e = .returned (.bool true) ∧ Below w.heap.size w w' := by
  have HP : Hid (∀ w : World, Calls Try.prog 8 #[.agg (frC k fl st l)] w fun e w' => (∃ v, e = .returned (.tuple #[.agg (ptC p v), .agg wgZ]) ∧ Hid (SP w.heap.size w' (.ok p) v)) ∧ Below w.heap.size w w') := hid' (fun w => cparse_ok k fl st l p hp (by have := Fm.parse_data hp; omega) (by omega) w)
  have d_k0 : decide (k < 0) = false := decide_eq_false (by omega)
  have d_k16 : decide ((16 : Int) < k) = false := decide_eq_false (by omega)
  have d_k9 : decide ((9 : Int) < k) = true := decide_eq_true (by omega)
  have d_kl : decide (k < 16) = false := decide_eq_false (by omega)
  have d_f0 : decide (fl < 0) = false := decide_eq_false (by omega)
  have d_f1 : decide ((255 : Int) < fl) = false := decide_eq_false (by omega)
  have d_s0 : decide (st < 0) = false := decide_eq_false (by omega)
  have d_s1 : decide ((2147483647 : Int) < st) = true := decide_eq_true (by omega)
  clear hp hk hf0 hf1 hs1
  go_enter Try.func4, Try.ntmps4
  go_wp2_with (refine wpl_box 29 _ rfl rfl (frC k fl st l) (by kernel_rfl) ?_)
  intro b0 w0 hg0 ha0 hb0
  obtain ⟨c0, c1, c2, c3⟩ := frC_cells ha0
  have HB0 := hid' hb0
  have HA0 := hid' ha0
  clear ha0 hb0
  go_wp2_with fail
  refine (HP.out _).mono ?_
  rintro e w1 ⟨⟨u, rfl, hu⟩, hb1⟩
  have hq := hu.out _ rfl
  obtain ⟨bo, cap', hsh⟩ := (SR.of_own hq).shape
  subst hsh
  have HQ1 := hid' (SR.of_own hq)
  have HB1 := hid' (below_two HB0.out hb1)
  have HA1 := hid' (HA0.out.keep hb1)
  clear hb1 hu hq c0 c1 c2 c3
  go_wp2_with (refine wpl_open2 rfl rfl rfl rfl ?_)
  intro b3 b4 w2 hg3 hg4 ha3 ha4 hb2
  refine wpl_st2 _ _ _ _ rfl rfl rfl rfl w1.heap.size b3 b4 p bo p.sets.length cap' false false 0 (by kernel_rfl) (by kernel_rfl) (by kernel_rfl) (by kernel_rfl) ha3 ha4 hg3 hg4 ?_
  intro w3 hp3 hw3 hb3
  have hb3' := hb2.trans hb3
  have HB3 := hid' (below_two HB1.out hb3')
  have HA3 := hid' (HA1.out.keep hb3')
  have HQ3 := hid' (HQ1.out.keep hb3')
  have HP3 := hid' hp3
  obtain ⟨z0, z1, z2⟩ := wg_cells hw3
  obtain ⟨c0, c1, c2, c3⟩ := frC_cells HA3.out
  obtain ⟨x0, x1, x2, x3, x4, x5, x6, x7⟩ := pt_cells hp3
  clear hg3 hg4 ha3 ha4 hb2 hp3 hw3 hb3 hb3'
  clear x0 x1 x2 x3 x4 x5 x6 x7
  go_wp2_with fail
  refine (awake7 _).mono ?_
  rintro e w4 ⟨rfl, hb4⟩
  have HB4 := hid' (below_two HB3.out hb4)
  clear hb4
  go_wp2
  go_ret
  exact ⟨rfl, HB4.out⟩

set_option maxHeartbeats 4000000 in
set_option maxRecDepth 20000 in
theorem fagain_Aq (k fl st : Int) (l : List UInt8) (p : Fm.Pt) (hp : Fm.parse k fl st l = .ok p) (hl : l.length ≤ 1048576) (hf0 : 0 ≤ fl) (hf1 : fl ≤ 255) (hs0 : 0 ≤ st) (hs1 : st ≤ 2147483647) (hk1 : k = 1) (hq1 : fl / 8 % 2 = 1) (w : World) : Calls Try.prog 4 #[.agg (frC k fl st l)] w fun e w' => e = .returned (.bool true) ∧ Below w.heap.size w w' := by
  have HP : Hid (∀ w : World, Calls Try.prog 8 #[.agg (frC k fl st l)] w fun e w' => (∃ v, e = .returned (.tuple #[.agg (ptC p v), .agg wgZ]) ∧ Hid (SP w.heap.size w' (.ok p) v)) ∧ Below w.heap.size w w') := hid' (fun w => cparse_ok k fl st l p hp (by have := Fm.parse_data hp; omega) (by omega) w)
  have d_k0 : decide (k < 0) = false := decide_eq_false (by omega)
  have d_k16 : decide ((16 : Int) < k) = false := decide_eq_false (by omega)
  have d_k9 : decide ((9 : Int) < k) = false := decide_eq_false (by omega)
  have d_f0 : decide (fl < 0) = false := decide_eq_false (by omega)
  have d_f1 : decide ((255 : Int) < fl) = false := decide_eq_false (by omega)
  have d_s0 : decide (st < 0) = false := decide_eq_false (by omega)
  have d_s1 : decide ((2147483647 : Int) < st) = false := decide_eq_false (by omega)
  have d_h : (k == 1) = true := by rw [hk1]; rfl
  have d_q1 : fl.tdiv 8 = fl / 8 := Int.tdiv_eq_ediv_of_nonneg (by omega)
  have d_q2 : (fl / 8).tmod 2 = fl / 8 % 2 := Int.tmod_eq_emod_of_nonneg (by omega)
  have d_q : (fl / 8 % 2 == 1) = true := by simpa using hq1
  clear hp hs0 hs1 hk1 hq1
  go_enter Try.func4, Try.ntmps4
  go_wp2_with (refine wpl_box 29 _ rfl rfl (frC k fl st l) (by kernel_rfl) ?_)
  intro b0 w0 hg0 ha0 hb0
  obtain ⟨c0, c1, c2, c3⟩ := frC_cells ha0
  have HB0 := hid' hb0
  have HA0 := hid' ha0
  clear ha0 hb0
  go_wp2_with fail
  refine (HP.out _).mono ?_
  rintro e w1 ⟨⟨u, rfl, hu⟩, hb1⟩
  have hq := hu.out _ rfl
  obtain ⟨bo, cap', hsh⟩ := (SR.of_own hq).shape
  subst hsh
  have HQ1 := hid' (SR.of_own hq)
  have HB1 := hid' (below_two HB0.out hb1)
  have HA1 := hid' (HA0.out.keep hb1)
  clear hb1 hu hq c0 c1 c2 c3
  go_wp2_with (refine wpl_open2 rfl rfl rfl rfl ?_)
  intro b3 b4 w2 hg3 hg4 ha3 ha4 hb2
  refine wpl_st2 _ _ _ _ rfl rfl rfl rfl w1.heap.size b3 b4 p bo p.sets.length cap' false false 0 (by kernel_rfl) (by kernel_rfl) (by kernel_rfl) (by kernel_rfl) ha3 ha4 hg3 hg4 ?_
  intro w3 hp3 hw3 hb3
  have hb3' := hb2.trans hb3
  have HB3 := hid' (below_two HB1.out hb3')
  have HA3 := hid' (HA1.out.keep hb3')
  have HQ3 := hid' (HQ1.out.keep hb3')
  have HP3 := hid' hp3
  obtain ⟨z0, z1, z2⟩ := wg_cells hw3
  obtain ⟨c0, c1, c2, c3⟩ := frC_cells HA3.out
  obtain ⟨x0, x1, x2, x3, x4, x5, x6, x7⟩ := pt_cells hp3
  clear hg3 hg4 ha3 ha4 hb2 hp3 hw3 hb3 hb3'
  clear x0 x1 x2 x3 x4 x5 x6 x7
  go_wp2_with fail
  refine (awake7 _).mono ?_
  rintro e w4 ⟨rfl, hb4⟩
  have HB4 := hid' (below_two HB3.out hb4)
  clear hb4
  go_wp2
  go_ret
  exact ⟨rfl, HB4.out⟩

set_option maxHeartbeats 4000000 in
set_option maxRecDepth 20000 in
theorem fagain_A0 (k fl st : Int) (l : List UInt8) (p : Fm.Pt) (hp : Fm.parse k fl st l = .ok p) (hl : l.length ≤ 1048576) (hk : 0 ≤ k ∧ k ≤ 9) (hf0 : 0 ≤ fl) (hf1 : fl ≤ 255) (hs0 : 0 ≤ st) (hs1 : st ≤ 2147483647) (hk1 : k ≠ 1) (w : World) : Calls Try.prog 4 #[.agg (frC k fl st l)] w fun e w' => e = .returned (.bool true) ∧ Below w.heap.size w w' := by
  have HP : Hid (∀ w : World, Calls Try.prog 8 #[.agg (frC k fl st l)] w fun e w' => (∃ v, e = .returned (.tuple #[.agg (ptC p v), .agg wgZ]) ∧ Hid (SP w.heap.size w' (.ok p) v)) ∧ Below w.heap.size w w') := hid' (fun w => cparse_ok k fl st l p hp (by have := Fm.parse_data hp; omega) (by omega) w)
  obtain ⟨s, hsl, hps, hpay⟩ := again k fl st l p hp (.inl (by omega)) (by omega) (fun h => hk1 h.1)
  have hun : Fm.unw k fl st s.length = 0 := by
    unfold Fm.unw
    rw [if_pos (by unfold Fm.may; exact decide_eq_true (by omega)), if_neg (by omega)]
  have hplen := Fm.parse_len hps
  have HSS := hid' hplen
  have HM : Hid (∀ (w : World) (v : Value), SR w v p.sets → Calls Try.prog 6 #[.int .i64 k, .int .i64 fl, .int .i64 st, .agg (ptC p v)] w fun e w' => e = .returned (.tuple #[.agg (frC k fl st s), .int .i64 0]) ∧ Below w.heap.size w w') := hid' (fun w v hv => cmake_yes k fl st p v s hpay hun (by
    rcases say_out k fl st p s (by omega) with h | ⟨_, h⟩
    · intro w v hv
      obtain ⟨pd, pp, pc, pl, pw, po, pm, ps⟩ := p
      exact csays_all k fl st s pd pp pc pl pw po pm ps ps v hps (by omega) w hv true (decide_eq_true rfl) (by simp only at hplen; omega)
    · exact h) w hv)
  have HP' : Hid (∀ w : World, Calls Try.prog 8 #[.agg (frC k fl st s)] w fun e w' => (∃ v, e = .returned (.tuple #[.agg (ptC p v), .agg wgZ]) ∧ Hid (SP w.heap.size w' (.ok p) v)) ∧ Below w.heap.size w w') := hid' (fun w => cparse_ok k fl st s p hps (by have := Fm.parse_data hps; omega) (by omega) w)
  have HSL := hid' hsl
  have hlen1 : ((s.length : Int) == (l.length : Int)) = true := by rw [hsl]; simp
  have hsb : s.length ≤ 1048576 := by omega
  have d_k0 : decide (k < 0) = false := decide_eq_false (by omega)
  have d_k16 : decide ((16 : Int) < k) = false := decide_eq_false (by omega)
  have d_k9 : decide ((9 : Int) < k) = false := decide_eq_false (by omega)
  have d_f0 : decide (fl < 0) = false := decide_eq_false (by omega)
  have d_f1 : decide ((255 : Int) < fl) = false := decide_eq_false (by omega)
  have d_s0 : decide (st < 0) = false := decide_eq_false (by omega)
  have d_s1 : decide ((2147483647 : Int) < st) = false := decide_eq_false (by omega)
  have d_h : (k == 1) = false := by exact beq_false_of_ne hk1
  have d_l : decide ((16777215 : Int) < (l.length : Int)) = false := decide_eq_false (by omega)
  clear hp hps hpay hun hplen hsl hk hf0 hf1 hs0 hs1 hk1
  go_enter Try.func4, Try.ntmps4
  go_wp2_with (refine wpl_box 29 _ rfl rfl (frC k fl st l) (by kernel_rfl) ?_)
  intro b0 w0 hg0 ha0 hb0
  obtain ⟨c0, c1, c2, c3⟩ := frC_cells ha0
  have HB0 := hid' hb0
  have HA0 := hid' ha0
  clear ha0 hb0
  go_wp2_with fail
  refine (HP.out _).mono ?_
  rintro e w1 ⟨⟨u, rfl, hu⟩, hb1⟩
  have hq := hu.out _ rfl
  obtain ⟨bo, cap', hsh⟩ := (SR.of_own hq).shape
  subst hsh
  have HQ1 := hid' (SR.of_own hq)
  have HB1 := hid' (below_two HB0.out hb1)
  have HA1 := hid' (HA0.out.keep hb1)
  clear hb1 hu hq c0 c1 c2 c3
  go_wp2_with (refine wpl_open2 rfl rfl rfl rfl ?_)
  intro b3 b4 w2 hg3 hg4 ha3 ha4 hb2
  refine wpl_st2 _ _ _ _ rfl rfl rfl rfl w1.heap.size b3 b4 p bo p.sets.length cap' false false 0 (by kernel_rfl) (by kernel_rfl) (by kernel_rfl) (by kernel_rfl) ha3 ha4 hg3 hg4 ?_
  intro w3 hp3 hw3 hb3
  have hb3' := hb2.trans hb3
  have HB3 := hid' (below_two HB1.out hb3')
  have HA3 := hid' (HA1.out.keep hb3')
  have HQ3 := hid' (HQ1.out.keep hb3')
  have HP3 := hid' hp3
  obtain ⟨z0, z1, z2⟩ := wg_cells hw3
  obtain ⟨c0, c1, c2, c3⟩ := frC_cells HA3.out
  obtain ⟨x0, x1, x2, x3, x4, x5, x6, x7⟩ := pt_cells hp3
  clear hg3 hg4 ha3 ha4 hb2 hp3 hw3 hb3 hb3'
  go_upto_region 4 with fail
  go_wp2_with fail
  refine (HM.out _ _ HQ3.out).mono ?_
  rintro e w4 ⟨rfl, hb4⟩
  have HB4 := hid' (below_two HB3.out hb4)
  have HA4 := hid' (HA3.out.keep hb4)
  have HQ4 := hid' (HQ3.out.keep hb4)
  have HP4 := hid' (HP3.out.keep hb4)
  clear hb4 c0 c1 c2 c3 x0 x1 x2 x3 x4 x5 x6 x7 z0 z1 z2
  go_wp2_with (refine wpl_alloc 29 rfl rfl _ zeroFrame ?_)
  intro b5 w5 hg ha hb
  refine wpl_stf _ _ rfl rfl b5 k fl st s (by kernel_rfl) (by kernel_rfl) _ ha rfl ?_
  intro w6 ha6 hu
  have hb6 := hb.trans (hu.below hg)
  have HB6 := hid' (below_two HB4.out hb6)
  have HA6 := hid' (HA4.out.keep hb6)
  have HQ6 := hid' (HQ4.out.keep hb6)
  have HP6 := hid' (HP4.out.keep hb6)
  have HF6 := hid' ha6
  obtain ⟨d0, d1, d2, d3⟩ := frC_cells ha6
  clear hg ha hb hu ha6 hb6
  go_wp2_with fail
  refine (HP'.out _).mono ?_
  rintro e w7 ⟨⟨u, rfl, hu⟩, hb7⟩
  have hq := hu.out _ rfl
  obtain ⟨co, cap2, hsh⟩ := (SR.of_own hq).shape
  subst hsh
  have HR7 := hid' (SR.of_own hq)
  have HB7 := hid' (below_two HB6.out hb7)
  have HA7 := hid' (HA6.out.keep hb7)
  have HQ7 := hid' (HQ6.out.keep hb7)
  have HP7 := hid' (HP6.out.keep hb7)
  have HF7 := hid' (HF6.out.keep hb7)
  clear hb7 hu hq d0 d1 d2 d3
  go_wp2_with (refine wpl_open2 rfl rfl rfl rfl ?_)
  intro b8 b9 w8 hg8 hg9 ha8 ha9 hb8
  refine wpl_st2 _ _ _ _ rfl rfl rfl rfl w7.heap.size b8 b9 p co p.sets.length cap2 false false 0 (by kernel_rfl) (by kernel_rfl) (by kernel_rfl) (by kernel_rfl) ha8 ha9 hg8 hg9 ?_
  intro w9 hp9 hw9 hb9
  have hb9' := hb8.trans hb9
  have HB9 := hid' (below_two HB7.out hb9')
  have HA9 := hid' (HA7.out.keep hb9')
  have HQ9 := hid' (HQ7.out.keep hb9')
  have HR9 := hid' (HR7.out.keep hb9')
  have HP9 := hid' (HP7.out.keep hb9')
  have HF9 := hid' (HF7.out.keep hb9')
  have HG9 := hid' hp9
  have HW9 := hid' hw9
  clear hg8 hg9 ha8 ha9 hb8 hb9 hb9' hp9 hw9
  go_wp2_with fail
  refine (awake7 _).mono ?_
  rintro e w10 ⟨rfl, hb10⟩
  have HB10 := hid' (below_two HB9.out hb10)
  have HA10 := hid' (HA9.out.keep hb10)
  have HQ10 := hid' (HQ9.out.keep hb10)
  have HR10 := hid' (HR9.out.keep hb10)
  have HF10 := hid' (HF9.out.keep hb10)
  obtain ⟨z0, z1, z2⟩ := wg_cells (HW9.out.keep hb10)
  obtain ⟨x0, x1, x2, x3, x4, x5, x6, x7⟩ := pt_cells (HP9.out.keep hb10)
  obtain ⟨y0, y1, y2, y3, y4, y5, y6, y7⟩ := pt_cells (HG9.out.keep hb10)
  clear hb10
  go_wp2_with fail
  refine (csame_yes p _ _ _ HQ10.out HR10.out (by have := HSS.out; omega)).mono ?_
  rintro e w11 ⟨rfl, hb11⟩
  have HB11 := hid' (below_two HB10.out hb11)
  obtain ⟨c0, c1, c2, c3⟩ := frC_cells (HA10.out.keep hb11)
  obtain ⟨d0, d1, d2, d3⟩ := frC_cells (HF10.out.keep hb11)
  clear hb11
  go_wp2
  go_ret
  exact ⟨rfl, HB11.out⟩

set_option maxHeartbeats 4000000 in
set_option maxRecDepth 20000 in
theorem fagain_A1 (k fl st : Int) (l : List UInt8) (p : Fm.Pt) (hp : Fm.parse k fl st l = .ok p) (hl : l.length ≤ 1048576) (hk : 0 ≤ k ∧ k ≤ 9) (hf0 : 0 ≤ fl) (hf1 : fl ≤ 255) (hs0 : 0 ≤ st) (hs1 : st ≤ 2147483647) (hk1 : k = 1) (hq1 : ¬ fl / 8 % 2 = 1) (w : World) : Calls Try.prog 4 #[.agg (frC k fl st l)] w fun e w' => e = .returned (.bool true) ∧ Below w.heap.size w w' := by
  have HP : Hid (∀ w : World, Calls Try.prog 8 #[.agg (frC k fl st l)] w fun e w' => (∃ v, e = .returned (.tuple #[.agg (ptC p v), .agg wgZ]) ∧ Hid (SP w.heap.size w' (.ok p) v)) ∧ Below w.heap.size w w') := hid' (fun w => cparse_ok k fl st l p hp (by have := Fm.parse_data hp; omega) (by omega) w)
  obtain ⟨s, hsl, hps, hpay⟩ := again k fl st l p hp (.inl (by omega)) (by omega) (fun h => by have := of_decide_eq_true h.2; omega)
  have hun : Fm.unw k fl st s.length = 0 := by
    unfold Fm.unw
    rw [if_pos (by unfold Fm.may; exact decide_eq_true (by omega)), if_neg (by omega)]
  have hplen := Fm.parse_len hps
  have HSS := hid' hplen
  have HM : Hid (∀ (w : World) (v : Value), SR w v p.sets → Calls Try.prog 6 #[.int .i64 k, .int .i64 fl, .int .i64 st, .agg (ptC p v)] w fun e w' => e = .returned (.tuple #[.agg (frC k fl st s), .int .i64 0]) ∧ Below w.heap.size w w') := hid' (fun w v hv => cmake_yes k fl st p v s hpay hun (by
    rcases say_out k fl st p s (by omega) with h | ⟨_, h⟩
    · intro w v hv
      obtain ⟨pd, pp, pc, pl, pw, po, pm, ps⟩ := p
      exact csays_all k fl st s pd pp pc pl pw po pm ps ps v hps (by omega) w hv true (decide_eq_true rfl) (by simp only at hplen; omega)
    · exact h) w hv)
  have HP' : Hid (∀ w : World, Calls Try.prog 8 #[.agg (frC k fl st s)] w fun e w' => (∃ v, e = .returned (.tuple #[.agg (ptC p v), .agg wgZ]) ∧ Hid (SP w.heap.size w' (.ok p) v)) ∧ Below w.heap.size w w') := hid' (fun w => cparse_ok k fl st s p hps (by have := Fm.parse_data hps; omega) (by omega) w)
  have HSL := hid' hsl
  have hlen1 : ((s.length : Int) == (l.length : Int)) = true := by rw [hsl]; simp
  have hsb : s.length ≤ 1048576 := by omega
  have d_k0 : decide (k < 0) = false := decide_eq_false (by omega)
  have d_k16 : decide ((16 : Int) < k) = false := decide_eq_false (by omega)
  have d_k9 : decide ((9 : Int) < k) = false := decide_eq_false (by omega)
  have d_f0 : decide (fl < 0) = false := decide_eq_false (by omega)
  have d_f1 : decide ((255 : Int) < fl) = false := decide_eq_false (by omega)
  have d_s0 : decide (st < 0) = false := decide_eq_false (by omega)
  have d_s1 : decide ((2147483647 : Int) < st) = false := decide_eq_false (by omega)
  have d_h : (k == 1) = true := by rw [hk1]; rfl
  have d_q1 : fl.tdiv 8 = fl / 8 := Int.tdiv_eq_ediv_of_nonneg (by omega)
  have d_q2 : (fl / 8).tmod 2 = fl / 8 % 2 := Int.tmod_eq_emod_of_nonneg (by omega)
  have d_q : (fl / 8 % 2 == 1) = false := by simpa using hq1
  have d_l : decide ((16777215 : Int) < (l.length : Int)) = false := decide_eq_false (by omega)
  clear hp hps hpay hun hplen hsl hk hs0 hs1 hk1 hq1
  go_enter Try.func4, Try.ntmps4
  go_wp2_with (refine wpl_box 29 _ rfl rfl (frC k fl st l) (by kernel_rfl) ?_)
  intro b0 w0 hg0 ha0 hb0
  obtain ⟨c0, c1, c2, c3⟩ := frC_cells ha0
  have HB0 := hid' hb0
  have HA0 := hid' ha0
  clear ha0 hb0
  go_wp2_with fail
  refine (HP.out _).mono ?_
  rintro e w1 ⟨⟨u, rfl, hu⟩, hb1⟩
  have hq := hu.out _ rfl
  obtain ⟨bo, cap', hsh⟩ := (SR.of_own hq).shape
  subst hsh
  have HQ1 := hid' (SR.of_own hq)
  have HB1 := hid' (below_two HB0.out hb1)
  have HA1 := hid' (HA0.out.keep hb1)
  clear hb1 hu hq c0 c1 c2 c3
  go_wp2_with (refine wpl_open2 rfl rfl rfl rfl ?_)
  intro b3 b4 w2 hg3 hg4 ha3 ha4 hb2
  refine wpl_st2 _ _ _ _ rfl rfl rfl rfl w1.heap.size b3 b4 p bo p.sets.length cap' false false 0 (by kernel_rfl) (by kernel_rfl) (by kernel_rfl) (by kernel_rfl) ha3 ha4 hg3 hg4 ?_
  intro w3 hp3 hw3 hb3
  have hb3' := hb2.trans hb3
  have HB3 := hid' (below_two HB1.out hb3')
  have HA3 := hid' (HA1.out.keep hb3')
  have HQ3 := hid' (HQ1.out.keep hb3')
  have HP3 := hid' hp3
  obtain ⟨z0, z1, z2⟩ := wg_cells hw3
  obtain ⟨c0, c1, c2, c3⟩ := frC_cells HA3.out
  obtain ⟨x0, x1, x2, x3, x4, x5, x6, x7⟩ := pt_cells hp3
  clear hg3 hg4 ha3 ha4 hb2 hp3 hw3 hb3 hb3'
  go_upto_region 4 with fail
  go_wp2_with fail
  refine (HM.out _ _ HQ3.out).mono ?_
  rintro e w4 ⟨rfl, hb4⟩
  have HB4 := hid' (below_two HB3.out hb4)
  have HA4 := hid' (HA3.out.keep hb4)
  have HQ4 := hid' (HQ3.out.keep hb4)
  have HP4 := hid' (HP3.out.keep hb4)
  clear hb4 c0 c1 c2 c3 x0 x1 x2 x3 x4 x5 x6 x7 z0 z1 z2
  go_wp2_with (refine wpl_alloc 29 rfl rfl _ zeroFrame ?_)
  intro b5 w5 hg ha hb
  refine wpl_stf _ _ rfl rfl b5 k fl st s (by kernel_rfl) (by kernel_rfl) _ ha rfl ?_
  intro w6 ha6 hu
  have hb6 := hb.trans (hu.below hg)
  have HB6 := hid' (below_two HB4.out hb6)
  have HA6 := hid' (HA4.out.keep hb6)
  have HQ6 := hid' (HQ4.out.keep hb6)
  have HP6 := hid' (HP4.out.keep hb6)
  have HF6 := hid' ha6
  obtain ⟨d0, d1, d2, d3⟩ := frC_cells ha6
  clear hg ha hb hu ha6 hb6
  go_wp2_with fail
  refine (HP'.out _).mono ?_
  rintro e w7 ⟨⟨u, rfl, hu⟩, hb7⟩
  have hq := hu.out _ rfl
  obtain ⟨co, cap2, hsh⟩ := (SR.of_own hq).shape
  subst hsh
  have HR7 := hid' (SR.of_own hq)
  have HB7 := hid' (below_two HB6.out hb7)
  have HA7 := hid' (HA6.out.keep hb7)
  have HQ7 := hid' (HQ6.out.keep hb7)
  have HP7 := hid' (HP6.out.keep hb7)
  have HF7 := hid' (HF6.out.keep hb7)
  clear hb7 hu hq d0 d1 d2 d3
  go_wp2_with (refine wpl_open2 rfl rfl rfl rfl ?_)
  intro b8 b9 w8 hg8 hg9 ha8 ha9 hb8
  refine wpl_st2 _ _ _ _ rfl rfl rfl rfl w7.heap.size b8 b9 p co p.sets.length cap2 false false 0 (by kernel_rfl) (by kernel_rfl) (by kernel_rfl) (by kernel_rfl) ha8 ha9 hg8 hg9 ?_
  intro w9 hp9 hw9 hb9
  have hb9' := hb8.trans hb9
  have HB9 := hid' (below_two HB7.out hb9')
  have HA9 := hid' (HA7.out.keep hb9')
  have HQ9 := hid' (HQ7.out.keep hb9')
  have HR9 := hid' (HR7.out.keep hb9')
  have HP9 := hid' (HP7.out.keep hb9')
  have HF9 := hid' (HF7.out.keep hb9')
  have HG9 := hid' hp9
  have HW9 := hid' hw9
  clear hg8 hg9 ha8 ha9 hb8 hb9 hb9' hp9 hw9
  go_wp2_with fail
  refine (awake7 _).mono ?_
  rintro e w10 ⟨rfl, hb10⟩
  have HB10 := hid' (below_two HB9.out hb10)
  have HA10 := hid' (HA9.out.keep hb10)
  have HQ10 := hid' (HQ9.out.keep hb10)
  have HR10 := hid' (HR9.out.keep hb10)
  have HF10 := hid' (HF9.out.keep hb10)
  obtain ⟨z0, z1, z2⟩ := wg_cells (HW9.out.keep hb10)
  obtain ⟨x0, x1, x2, x3, x4, x5, x6, x7⟩ := pt_cells (HP9.out.keep hb10)
  obtain ⟨y0, y1, y2, y3, y4, y5, y6, y7⟩ := pt_cells (HG9.out.keep hb10)
  clear hb10
  go_wp2_with fail
  refine (csame_yes p _ _ _ HQ10.out HR10.out (by have := HSS.out; omega)).mono ?_
  rintro e w11 ⟨rfl, hb11⟩
  have HB11 := hid' (below_two HB10.out hb11)
  obtain ⟨c0, c1, c2, c3⟩ := frC_cells (HA10.out.keep hb11)
  obtain ⟨d0, d1, d2, d3⟩ := frC_cells (HF10.out.keep hb11)
  clear hb11
  go_wp2
  go_ret
  exact ⟨rfl, HB11.out⟩

set_option maxHeartbeats 4000000 in
set_option maxRecDepth 20000 in
theorem fagain_B0 (k fl st : Int) (l : List UInt8) (p : Fm.Pt) (hp : Fm.parse k fl st l = .ok p) (hl : l.length ≤ 1048576) (hk : k = 16) (hf0 : 0 ≤ fl) (hf1 : fl ≤ 255) (hs0 : 0 ≤ st) (hs1 : st ≤ 2147483647) (hk1 : k ≠ 1) (w : World) : Calls Try.prog 4 #[.agg (frC k fl st l)] w fun e w' => e = .returned (.bool true) ∧ Below w.heap.size w w' := by
  have HP : Hid (∀ w : World, Calls Try.prog 8 #[.agg (frC k fl st l)] w fun e w' => (∃ v, e = .returned (.tuple #[.agg (ptC p v), .agg wgZ]) ∧ Hid (SP w.heap.size w' (.ok p) v)) ∧ Below w.heap.size w w') := hid' (fun w => cparse_ok k fl st l p hp (by have := Fm.parse_data hp; omega) (by omega) w)
  obtain ⟨s, hsl, hps, hpay⟩ := again k fl st l p hp (.inr hk) (by omega) (fun h => hk1 h.1)
  have hun : Fm.unw k fl st s.length = 0 := by
    unfold Fm.unw
    rw [if_pos (by unfold Fm.may; exact decide_eq_true (by omega)), if_neg (by omega)]
  have hplen := Fm.parse_len hps
  have HSS := hid' hplen
  have HM : Hid (∀ (w : World) (v : Value), SR w v p.sets → Calls Try.prog 6 #[.int .i64 k, .int .i64 fl, .int .i64 st, .agg (ptC p v)] w fun e w' => e = .returned (.tuple #[.agg (frC k fl st s), .int .i64 0]) ∧ Below w.heap.size w w') := hid' (fun w v hv => cmake_yes k fl st p v s hpay hun (by
    rcases say_out k fl st p s (by omega) with h | ⟨_, h⟩
    · intro w v hv
      obtain ⟨pd, pp, pc, pl, pw, po, pm, ps⟩ := p
      exact csays_all k fl st s pd pp pc pl pw po pm ps ps v hps (by omega) w hv true (decide_eq_true rfl) (by simp only at hplen; omega)
    · exact h) w hv)
  have HP' : Hid (∀ w : World, Calls Try.prog 8 #[.agg (frC k fl st s)] w fun e w' => (∃ v, e = .returned (.tuple #[.agg (ptC p v), .agg wgZ]) ∧ Hid (SP w.heap.size w' (.ok p) v)) ∧ Below w.heap.size w w') := hid' (fun w => cparse_ok k fl st s p hps (by have := Fm.parse_data hps; omega) (by omega) w)
  have HSL := hid' hsl
  have hlen1 : ((s.length : Int) == (l.length : Int)) = true := by rw [hsl]; simp
  have hsb : s.length ≤ 1048576 := by omega
  have d_k0 : decide (k < 0) = false := decide_eq_false (by omega)
  have d_k16 : decide ((16 : Int) < k) = false := decide_eq_false (by omega)
  have d_k9 : decide ((9 : Int) < k) = true := decide_eq_true (by omega)
  have d_kl : decide (k < 16) = false := decide_eq_false (by omega)
  have d_f0 : decide (fl < 0) = false := decide_eq_false (by omega)
  have d_f1 : decide ((255 : Int) < fl) = false := decide_eq_false (by omega)
  have d_s0 : decide (st < 0) = false := decide_eq_false (by omega)
  have d_s1 : decide ((2147483647 : Int) < st) = false := decide_eq_false (by omega)
  have d_h : (k == 1) = false := by exact beq_false_of_ne hk1
  have d_l : decide ((16777215 : Int) < (l.length : Int)) = false := decide_eq_false (by omega)
  clear hp hps hpay hun hplen hsl hk hf0 hf1 hs0 hs1 hk1
  go_enter Try.func4, Try.ntmps4
  go_wp2_with (refine wpl_box 29 _ rfl rfl (frC k fl st l) (by kernel_rfl) ?_)
  intro b0 w0 hg0 ha0 hb0
  obtain ⟨c0, c1, c2, c3⟩ := frC_cells ha0
  have HB0 := hid' hb0
  have HA0 := hid' ha0
  clear ha0 hb0
  go_wp2_with fail
  refine (HP.out _).mono ?_
  rintro e w1 ⟨⟨u, rfl, hu⟩, hb1⟩
  have hq := hu.out _ rfl
  obtain ⟨bo, cap', hsh⟩ := (SR.of_own hq).shape
  subst hsh
  have HQ1 := hid' (SR.of_own hq)
  have HB1 := hid' (below_two HB0.out hb1)
  have HA1 := hid' (HA0.out.keep hb1)
  clear hb1 hu hq c0 c1 c2 c3
  go_wp2_with (refine wpl_open2 rfl rfl rfl rfl ?_)
  intro b3 b4 w2 hg3 hg4 ha3 ha4 hb2
  refine wpl_st2 _ _ _ _ rfl rfl rfl rfl w1.heap.size b3 b4 p bo p.sets.length cap' false false 0 (by kernel_rfl) (by kernel_rfl) (by kernel_rfl) (by kernel_rfl) ha3 ha4 hg3 hg4 ?_
  intro w3 hp3 hw3 hb3
  have hb3' := hb2.trans hb3
  have HB3 := hid' (below_two HB1.out hb3')
  have HA3 := hid' (HA1.out.keep hb3')
  have HQ3 := hid' (HQ1.out.keep hb3')
  have HP3 := hid' hp3
  obtain ⟨z0, z1, z2⟩ := wg_cells hw3
  obtain ⟨c0, c1, c2, c3⟩ := frC_cells HA3.out
  obtain ⟨x0, x1, x2, x3, x4, x5, x6, x7⟩ := pt_cells hp3
  clear hg3 hg4 ha3 ha4 hb2 hp3 hw3 hb3 hb3'
  go_upto_region 4 with fail
  go_wp2_with fail
  refine (HM.out _ _ HQ3.out).mono ?_
  rintro e w4 ⟨rfl, hb4⟩
  have HB4 := hid' (below_two HB3.out hb4)
  have HA4 := hid' (HA3.out.keep hb4)
  have HQ4 := hid' (HQ3.out.keep hb4)
  have HP4 := hid' (HP3.out.keep hb4)
  clear hb4 c0 c1 c2 c3 x0 x1 x2 x3 x4 x5 x6 x7 z0 z1 z2
  go_wp2_with (refine wpl_alloc 29 rfl rfl _ zeroFrame ?_)
  intro b5 w5 hg ha hb
  refine wpl_stf _ _ rfl rfl b5 k fl st s (by kernel_rfl) (by kernel_rfl) _ ha rfl ?_
  intro w6 ha6 hu
  have hb6 := hb.trans (hu.below hg)
  have HB6 := hid' (below_two HB4.out hb6)
  have HA6 := hid' (HA4.out.keep hb6)
  have HQ6 := hid' (HQ4.out.keep hb6)
  have HP6 := hid' (HP4.out.keep hb6)
  have HF6 := hid' ha6
  obtain ⟨d0, d1, d2, d3⟩ := frC_cells ha6
  clear hg ha hb hu ha6 hb6
  go_wp2_with fail
  refine (HP'.out _).mono ?_
  rintro e w7 ⟨⟨u, rfl, hu⟩, hb7⟩
  have hq := hu.out _ rfl
  obtain ⟨co, cap2, hsh⟩ := (SR.of_own hq).shape
  subst hsh
  have HR7 := hid' (SR.of_own hq)
  have HB7 := hid' (below_two HB6.out hb7)
  have HA7 := hid' (HA6.out.keep hb7)
  have HQ7 := hid' (HQ6.out.keep hb7)
  have HP7 := hid' (HP6.out.keep hb7)
  have HF7 := hid' (HF6.out.keep hb7)
  clear hb7 hu hq d0 d1 d2 d3
  go_wp2_with (refine wpl_open2 rfl rfl rfl rfl ?_)
  intro b8 b9 w8 hg8 hg9 ha8 ha9 hb8
  refine wpl_st2 _ _ _ _ rfl rfl rfl rfl w7.heap.size b8 b9 p co p.sets.length cap2 false false 0 (by kernel_rfl) (by kernel_rfl) (by kernel_rfl) (by kernel_rfl) ha8 ha9 hg8 hg9 ?_
  intro w9 hp9 hw9 hb9
  have hb9' := hb8.trans hb9
  have HB9 := hid' (below_two HB7.out hb9')
  have HA9 := hid' (HA7.out.keep hb9')
  have HQ9 := hid' (HQ7.out.keep hb9')
  have HR9 := hid' (HR7.out.keep hb9')
  have HP9 := hid' (HP7.out.keep hb9')
  have HF9 := hid' (HF7.out.keep hb9')
  have HG9 := hid' hp9
  have HW9 := hid' hw9
  clear hg8 hg9 ha8 ha9 hb8 hb9 hb9' hp9 hw9
  go_wp2_with fail
  refine (awake7 _).mono ?_
  rintro e w10 ⟨rfl, hb10⟩
  have HB10 := hid' (below_two HB9.out hb10)
  have HA10 := hid' (HA9.out.keep hb10)
  have HQ10 := hid' (HQ9.out.keep hb10)
  have HR10 := hid' (HR9.out.keep hb10)
  have HF10 := hid' (HF9.out.keep hb10)
  obtain ⟨z0, z1, z2⟩ := wg_cells (HW9.out.keep hb10)
  obtain ⟨x0, x1, x2, x3, x4, x5, x6, x7⟩ := pt_cells (HP9.out.keep hb10)
  obtain ⟨y0, y1, y2, y3, y4, y5, y6, y7⟩ := pt_cells (HG9.out.keep hb10)
  clear hb10
  go_wp2_with fail
  refine (csame_yes p _ _ _ HQ10.out HR10.out (by have := HSS.out; omega)).mono ?_
  rintro e w11 ⟨rfl, hb11⟩
  have HB11 := hid' (below_two HB10.out hb11)
  obtain ⟨c0, c1, c2, c3⟩ := frC_cells (HA10.out.keep hb11)
  obtain ⟨d0, d1, d2, d3⟩ := frC_cells (HF10.out.keep hb11)
  clear hb11
  go_wp2
  go_ret
  exact ⟨rfl, HB11.out⟩

theorem frameAgain_l (k fl st : Int) (l : List UInt8) (hl : l.length ≤ 1048576) (w : World) : Calls Try.prog 4 #[.agg (frC k fl st l)] w fun e w' => e = .returned (.bool true) ∧ Below w.heap.size w w' := by
  cases hp : Fm.parse k fl st l with
  | bad c e => exact fagain_bad k fl st l c e hp hl w
  | ok p =>
    by_cases a0 : k < 0
    · exact fagain_k0 k fl st l p hp hl a0 w
    by_cases a1 : 16 < k
    · exact fagain_k16 k fl st l p hp hl a1 w
    by_cases a2 : 9 < k ∧ k < 16
    · exact fagain_k9 k fl st l p hp hl a2 w
    by_cases hb : k = 16
    · by_cases f0 : fl < 0
      · exact fagain_Bf0 k fl st l p hp hl hb f0 w
      by_cases f1 : 255 < fl
      · exact fagain_Bf1 k fl st l p hp hl hb f1 w
      by_cases s0 : st < 0
      · exact fagain_Bs0 k fl st l p hp hl hb (by omega) (by omega) s0 w
      by_cases s1 : 2147483647 < st
      · exact fagain_Bs1 k fl st l p hp hl hb (by omega) (by omega) s1 w
      exact fagain_B0 k fl st l p hp hl hb (by omega) (by omega) (by omega) (by omega) (by omega) w
    · by_cases f0 : fl < 0
      · exact fagain_Af0 k fl st l p hp hl (by omega) f0 w
      by_cases f1 : 255 < fl
      · exact fagain_Af1 k fl st l p hp hl (by omega) f1 w
      by_cases s0 : st < 0
      · exact fagain_As0 k fl st l p hp hl (by omega) (by omega) (by omega) s0 w
      by_cases s1 : 2147483647 < st
      · exact fagain_As1 k fl st l p hp hl (by omega) (by omega) (by omega) s1 w
      by_cases h1 : k = 1
      · by_cases hq : fl / 8 % 2 = 1
        · exact fagain_Aq k fl st l p hp hl (by omega) (by omega) (by omega) (by omega) h1 hq w
        · exact fagain_A1 k fl st l p hp hl (by omega) (by omega) (by omega) (by omega) (by omega) h1 hq w
      · exact fagain_A0 k fl st l p hp hl (by omega) (by omega) (by omega) (by omega) (by omega) h1 w

theorem frameAgain_c (k fl st : Int) (s : ByteArray) (w : World) (h : s.size ≤ 1048576) : Calls Try.prog 4 #[.agg #[.int .i64 k, .int .i64 fl, .int .i64 st, .string s]] w fun e w' => e = .returned (.bool true) ∧ Below w.heap.size w w' := by
  have e : s = ⟨s.data.toList.toArray⟩ := by cases s; simp
  rw [e]
  exact frameAgain_l k fl st _ (by rw [← Lib.size_eq]; exact h) w

end Go.Proofs.Ytfccbeijibhnhab
