/-
  frame.isMisplaced, headSize, isSized, ofSetting: by their contracts.
-/
import Derived.Test.YthbidfcfkjamdaaFrA
namespace Go.Proofs.Ythbidfcfkjamdaa
open Go.RowKit

set_option maxHeartbeats 1000000 in
set_option maxRecDepth 20000 in
theorem chead_any (k fl st : Int) (l : List UInt8) (n : Nat) (hn : Fm.head k fl = n) (w : World) : Calls Try.prog 78 #[.agg (frC k fl st l)] w fun e w' => e = .returned (.int .i64 (n : Int)) ∧ Below w.heap.size w w' := by
  have HN := hid' hn
  clear hn
  go_enter Try.func78, Try.ntmps78
  go_wp2_with (refine wpl_box 31 _ rfl rfl (frC k fl st l) (by kernel_rfl) ?_)
  intro b0 w0 hg0 ha0 hb0
  obtain ⟨c0, c1, c2, c3⟩ := frC_cells ha0
  have HA := hid' ha0
  have HB := hid' hb0
  clear ha0 hb0
  obtain ⟨r8, h8⟩ : ∃ r, Fm.has fl 8 = r := ⟨_, rfl⟩
  have H8 := hid' h8
  clear h8
  go_wp2_with fail
  refine (chas_any k fl st l 8 r8 (by decide) H8.out _).mono ?_
  rintro e w1 ⟨rfl, hb1⟩
  obtain ⟨c0, c1, c2, c3⟩ := frC_cells (HA.out.keep hb1)
  have HA1 := hid' (HA.out.keep hb1)
  have HB1 := hid' (below_two HB.out hb1)
  clear hb1 HA HB
  by_cases hk : k = 1
  · subst hk
    obtain ⟨r5, h5⟩ : ∃ r, Fm.has fl 32 = r := ⟨_, rfl⟩
    have H5 := hid' h5
    clear h5
    cases r8 <;> cases r5 <;>
    · go_wp2_with fail
      refine (chas_any 1 fl st l 32 _ (by decide) H5.out _).mono ?_
      rintro e w2 ⟨rfl, hb2⟩
      have HB2 := hid' (below_two HB1.out hb2)
      clear hb2
      go_wp2
      go_ret
      exact ⟨ret_int (by rw [← HN.out]; simp [Fm.head, H8.out, H5.out]), HB2.out⟩
  · have hk1 : (k == 1) = false := beq_false_of_ne hk
    have HK := hid' hk
    clear hk
    cases r8 <;>
    · go_wp2
      go_ret
      exact ⟨ret_int (by rw [← HN.out]; simp [Fm.head, H8.out, HK.out]), HB1.out⟩

set_option maxHeartbeats 1000000 in
theorem cmis_any (k fl st : Int) (l : List UInt8) (r : Bool) (hr : Fm.mis k st = r) (w : World) : Calls Try.prog 64 #[.agg (frC k fl st l)] w fun e w' => e = .returned (.bool r) ∧ Below w.heap.size w w' := by
  have HR := hid' hr
  clear hr
  have hb0 : ∀ o, Below w.heap.size w (w.alloc o) := fun o => (Below.refl _ _).alloc (Nat.le_refl _) _
  have HB0 := hid' hb0
  clear hb0
  unfold frC
  by_cases hk : k = 0 ∨ k = 1 ∨ k = 2 ∨ k = 3 ∨ k = 9
  · have HM : Hid (r = (st == 0)) := hid' (by rw [← HR.out]; unfold Fm.mis; rw [if_pos hk]; rfl)
    rcases hk with rfl | rfl | rfl | rfl | rfl <;>
    · go_enter Try.func64, Try.ntmps64
      go_wp2
      go_ret
      exact ⟨ret_bool HM.out.symm, HB0.out _⟩
  by_cases hk2 : k = 4 ∨ k = 6 ∨ k = 7 ∨ k = 16
  · have HM : Hid (r = (st != 0)) := hid' (by rw [← HR.out]; unfold Fm.mis; rw [if_neg hk, if_pos hk2]; simp [bne, BEq.beq])
    clear hk
    rcases hk2 with rfl | rfl | rfl | rfl <;>
    · go_enter Try.func64, Try.ntmps64
      go_wp2
      go_ret
      exact ⟨ret_bool HM.out.symm, HB0.out _⟩
  have HM : Hid (r = (k == 5)) := hid' (by rw [← HR.out]; unfold Fm.mis; rw [if_neg hk, if_neg hk2]; rfl)
  have e0 : (k == 0) = false := beq_false_of_ne (by omega)
  have e1 : (k == 1) = false := beq_false_of_ne (by omega)
  have e2 : (k == 2) = false := beq_false_of_ne (by omega)
  have e3 : (k == 3) = false := beq_false_of_ne (by omega)
  have e4 : (k == 4) = false := beq_false_of_ne (by omega)
  have e6 : (k == 6) = false := beq_false_of_ne (by omega)
  have e7 : (k == 7) = false := beq_false_of_ne (by omega)
  have e9 : (k == 9) = false := beq_false_of_ne (by omega)
  have e16 : (k == 16) = false := beq_false_of_ne (by omega)
  clear hk hk2
  go_enter Try.func64, Try.ntmps64
  go_wp2
  go_ret
  exact ⟨ret_bool HM.out.symm, HB0.out _⟩

set_option maxHeartbeats 1000000 in
set_option maxRecDepth 20000 in
theorem csized_any (k fl st : Int) (l : List UInt8) (r : Bool) (hl : l.length ≤ 140737488355328) (hr : Fm.sized k fl l.length = r) (w : World) : Calls Try.prog 66 #[.agg (frC k fl st l)] w fun e w' => e = .returned (.bool r) ∧ Below w.heap.size w w' := by
  have HR := hid' hr
  clear hr
  have hb0 : ∀ o, Below w.heap.size w (w.alloc o) := fun o => (Below.refl _ _).alloc (Nat.le_refl _) _
  have HB0 := hid' hb0
  clear hb0
  by_cases hk : k = 0 ∨ k = 1
  · obtain ⟨n, hn⟩ : ∃ n, Fm.head k fl = n := ⟨_, rfl⟩
    have HN := hid' hn
    have HM : Hid (r = decide ((n : Int) ≤ (l.length : Int))) := hid' (by rw [← HR.out]; unfold Fm.sized; rw [if_pos hk, hn]; simp)
    clear hn
    rcases hk with rfl | rfl
    · go_enter Try.func66, Try.ntmps66
      go_wp2_with (refine wpl_box 31 _ rfl rfl (frC 0 fl st l) (by kernel_rfl) ?_)
      intro b0 w0 hg0 ha0 hb0
      obtain ⟨c0, c1, c2, c3⟩ := frC_cells ha0
      have HB := hid' hb0
      clear ha0 hb0
      go_wp2_with fail
      refine (chead_any 0 fl st l n HN.out _).mono ?_
      rintro e w1 ⟨rfl, hb1⟩
      have HB1 := hid' (below_two HB.out hb1)
      clear hb1
      go_wp2
      go_ret
      exact ⟨ret_bool (by rw [HM.out]; simp), HB1.out⟩
    · go_enter Try.func66, Try.ntmps66
      go_wp2_with (refine wpl_box 31 _ rfl rfl (frC 1 fl st l) (by kernel_rfl) ?_)
      intro b0 w0 hg0 ha0 hb0
      obtain ⟨c0, c1, c2, c3⟩ := frC_cells ha0
      have HB := hid' hb0
      clear ha0 hb0
      go_wp2_with fail
      refine (chead_any 1 fl st l n HN.out _).mono ?_
      rintro e w1 ⟨rfl, hb1⟩
      have HB1 := hid' (below_two HB.out hb1)
      clear hb1
      go_wp2
      go_ret
      exact ⟨ret_bool (by rw [HM.out]; simp), HB1.out⟩
  by_cases hk4 : k = 4
  · subst hk4
    have HM : Hid (r = (decide (l.length = 0) || (!Fm.has fl 1 && decide (l.length % 6 = 0)))) := hid' (by rw [← HR.out]; unfold Fm.sized; simp)
    by_cases h0 : l.length = 0
    · obtain rfl : l = [] := List.eq_nil_of_length_eq_zero h0
      unfold frC
      go_enter Try.func66, Try.ntmps66
      go_wp2
      go_ret
      exact ⟨ret_bool (by rw [HM.out]; simp), HB0.out _⟩
    · have hz : ((l.length : Int) == 0) = false := beq_false_of_ne (by omega)
      have HZ := hid' h0
      obtain ⟨g, hg⟩ : ∃ g, Fm.has fl 1 = g := ⟨_, rfl⟩
      have HG := hid' hg
      clear hg h0
      go_enter Try.func66, Try.ntmps66
      go_wp2_with (refine wpl_box 31 _ rfl rfl (frC 4 fl st l) (by kernel_rfl) ?_)
      intro b0 w0 hg0 ha0 hb0
      obtain ⟨c0, c1, c2, c3⟩ := frC_cells ha0
      have HB := hid' hb0
      clear ha0 hb0
      go_wp2_with fail
      refine (chas_any 4 fl st l 1 g (by decide) HG.out _).mono ?_
      rintro e w1 ⟨rfl, hb1⟩
      have HB1 := hid' (below_two HB.out hb1)
      clear hb1
      cases g
      · go_wp2
        go_ret
        refine ⟨ret_bool ?_, HB1.out⟩
        rw [HM.out, HG.out]
        have := HZ.out
        rw [decide_eq_false this]
        by_cases h6 : l.length % 6 = 0
        · rw [decide_eq_true h6]; simp; omega
        · rw [decide_eq_false h6]; simp; omega
      · go_wp2
        go_ret
        refine ⟨ret_bool ?_, HB1.out⟩
        rw [HM.out, HG.out]
        have := HZ.out
        simp; intro e; rw [e] at this; exact this rfl
  unfold frC
  by_cases hk' : k = 2 ∨ k = 3 ∨ k = 6 ∨ k = 7 ∨ k = 8 ∨ k = 16
  · have HM : Hid (r = if k = 2 then decide (l.length = 5) else if k = 3 then decide (l.length = 4) else if k = 6 then decide (l.length = 8) else if k = 7 then decide (8 ≤ l.length) else if k = 8 then decide (l.length = 4) else decide (4 ≤ l.length)) := hid' (by
      rw [← HR.out]; unfold Fm.sized; rw [if_neg hk, if_neg hk4]
      rcases hk' with rfl | rfl | rfl | rfl | rfl | rfl <;> rfl)
    clear hk hk4
    rcases hk' with rfl | rfl | rfl | rfl | rfl | rfl <;>
    · go_enter Try.func66, Try.ntmps66
      go_wp2
      go_ret
      refine ⟨ret_bool ?_, HB0.out _⟩
      rw [HM.out]
      simp [BEq.beq]
      try omega
  · have HM : Hid (r = true) := hid' (by
      rw [← HR.out]; unfold Fm.sized; rw [if_neg hk, if_neg hk4]
      rw [if_neg (by omega), if_neg (by omega), if_neg (by omega), if_neg (by omega), if_neg (by omega), if_neg (by omega)])
    have e0 : (k == 0) = false := beq_false_of_ne (by omega)
    have e1 : (k == 1) = false := beq_false_of_ne (by omega)
    have e2 : (k == 2) = false := beq_false_of_ne (by omega)
    have e3 : (k == 3) = false := beq_false_of_ne (by omega)
    have e4 : (k == 4) = false := beq_false_of_ne (by omega)
    have e6 : (k == 6) = false := beq_false_of_ne (by omega)
    have e7 : (k == 7) = false := beq_false_of_ne (by omega)
    have e8 : (k == 8) = false := beq_false_of_ne (by omega)
    have e16 : (k == 16) = false := beq_false_of_ne (by omega)
    clear hk hk4 hk'
    go_enter Try.func66, Try.ntmps66
    go_wp2
    go_ret
    exact ⟨ret_bool HM.out.symm, HB0.out _⟩

end Go.Proofs.Ythbidfcfkjamdaa
