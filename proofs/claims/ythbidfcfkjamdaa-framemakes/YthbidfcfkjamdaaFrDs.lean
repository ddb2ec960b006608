/-
  ostlerref07.padded of HEADERS: by its contract.
-/
import Derived.Test.YthbidfcfkjamdaaFrDy
namespace Go.Proofs.Ythbidfcfkjamdaa
open Go.RowKit

set_option maxHeartbeats 4000000 in
set_option maxRecDepth 20000 in
theorem rpadded_head00 (fl st : Int) (l : List UInt8) (r : Fm.Rd) (hs : st ≠ 0) (h8 : Fm.has fl 8 = false) (h32 : Fm.has fl 32 = false) (hsz : l.length ≤ 140737488355328) (hr : Fm.parse 1 fl st l = r) (w : World) : Calls Try.prog 53 #[.agg (frC 1 fl st l)] w fun e w' => e = .returned (rdV r (.slice none 0 0)) ∧ Below w.heap.size w w' := by
  have HFL := hid' (rflag_any 1 fl st l 8 false (by omega) h8)
  have HFM := hid' (rflag_any 1 fl st l 32 false (by omega) h32)
  have hs1 : (st == 0) = false := by simp [hs]
  have hhd : Fm.head 1 fl = 0 := by unfold Fm.head; simp [h8, h32]
  have hpd : Fm.pads fl l = 0 := by unfold Fm.pads; simp [h8]
  have hsz1 : Fm.sized 1 fl l.length = decide (True) := by simp [Fm.sized, hhd]
  obtain rfl : r = .ok ⟨l, 0, 0, 0, 0, false, 0, []⟩ := by
    rw [← hr]
    simp [Fm.parse, Fm.mis, hsz1, Fm.say, hs, hhd, hpd, h32]
  clear hr h8 h32 hhd hpd hsz1
  have hct := cut_ends l l.length
  rw [List.take_length] at hct
  have hlz : ¬ (l.length : Int) < 0 := by omega
  go_enter Try.func53, Try.ntmps53
  go_wp2_with (refine wpl_open _ rfl rfl rfl rfl rfl rfl 1 fl st l (by kernel_rfl) ?_)
  intro b1 b2 b3 w0 hF
  obtain ⟨c0, c1, c2, c3⟩ := frC_cells hF.a1
  have HF := hid' hF
  clear hF
  go_wp2_with (refine wpl_alloc 27 rfl rfl _ zeroParts ?_)
  intro b4 w4 hg4 ha4 hb4
  have HN24 : Hid (b2 ≠ b4) := hid' (by have := HF.out.a2.lt; omega)
  have HG4 : Hid (w.heap.size ≤ b4) := hid' (Nat.le_trans HF.out.bel.size hg4)
  have hA4 : Ar w4 b4 27 ptZ := ha4
  have HA4 := hid' hA4
  have HF4 := hid' (HF.out.keep hb4)
  obtain ⟨c0, c1, c2, c3⟩ := frC_cells HF4.out.a1
  clear hg4 ha4 hb4 HF hA4
  go_wp2_with (refine wpl_ldfr _ rfl rfl b1 (by kernel_rfl) _ _ _ _ HF4.out.a1 ?_)
  clear c0 c1 c2 c3
  go_wp2_with fail
  refine (HFL.out _).mono ?_
  rintro e w5 ⟨rfl, hb_w5⟩
  have HF4 := hid' (HF4.out.keep hb_w5)
  have HA4 := hid' (HA4.out.keep hb_w5)
  obtain ⟨c0, c1, c2, c3⟩ := frC_cells HF4.out.a1
  clear hb_w5
  go_wp2_with (refine wpl_ldfr _ rfl rfl b1 (by kernel_rfl) _ _ _ _ HF4.out.a1 ?_)
  clear c0 c1 c2 c3
  go_wp2_with fail
  refine (HFM.out _).mono ?_
  rintro e w6 ⟨rfl, hb_w6⟩
  have HF4 := hid' (HF4.out.keep hb_w6)
  have HA4 := hid' (HA4.out.keep hb_w6)
  obtain ⟨c0, c1, c2, c3⟩ := frC_cells HF4.out.a1
  clear hb_w6
  go_upto_region 18 with fail
  have e0 := HA4.out.cell 0 _ rfl
  have fe0 := HA4.out.free 0
  go_upto_region 19 with fail
  have hu8 := upd_setCell w6 b4 0 (.string ⟨l.toArray⟩)
  have HA8 : Hid (Ar (w6.setCell ⟨b4, 0, none⟩ (.string ⟨l.toArray⟩)) b4 27 (ptC ⟨l, 0, 0, 0, 0, false, 0, []⟩ (.slice none 0 0))) := hid' (HA4.out.set 0 _)
  obtain ⟨w8, hw8⟩ : ∃ w8, w6.setCell ⟨b4, 0, none⟩ (.string ⟨l.toArray⟩) = w8 := ⟨_, rfl⟩
  rw [hw8] at hu8 HA8
  try rw [hw8]
  have hA18 := hu8.keep HF4.out.a1 (HF4.out.a1.apart HA4.out (by decide))
  obtain ⟨d0, d1, d2, d3⟩ := frC_cells hA18
  have HA29 := hid' (hu8.keep HF4.out.a2 HN24.out)
  have HA39 := hid' (hu8.keep HF4.out.a3 (HF4.out.a3.apart HA4.out (by decide)))
  have HB9 := hid' (HF4.out.bel.trans (hu8.below HG4.out))
  have HG2 := hid' HF4.out.g2
  have HG3 := hid' HF4.out.g3
  clear hw8 hu8 HF4 hA18 c0 c1 c2 c3 e0 fe0
  go_wp2_with (first | refine wpl_ldf _ rfl rfl b4 (by kernel_rfl) _ _ HA8.out ?_ | refine wpl_st2 _ _ _ _ rfl rfl rfl rfl w.heap.size b2 b3 ⟨l, 0, 0, 0, 0, false, 0, []⟩ none 0 0 false false 0 (by kernel_rfl) (by kernel_rfl) (by kernel_rfl) (by kernel_rfl) HA29.out HA39.out HG2.out HG3.out ?_)
  intro w9 hp9 hw9 hb9
  go_wp2
  exact bodyPost_ret (v := rdV (.ok ⟨l, 0, 0, 0, 0, false, 0, []⟩) (.slice none 0 0)) (by simp [results, Try.results53, asAddr, ldp hp9, ldw hw9]; rfl) rfl ⟨rfl, HB9.out.trans hb9⟩

set_option maxHeartbeats 4000000 in
set_option maxRecDepth 20000 in
theorem rpadded_head01 (fl st : Int) (l : List UInt8) (r : Fm.Rd) (hs : st ≠ 0) (h8 : Fm.has fl 8 = false) (h32 : Fm.has fl 32 = true) (hsz : l.length ≤ 140737488355328) (hr : Fm.parse 1 fl st l = r) (w : World) : Calls Try.prog 53 #[.agg (frC 1 fl st l)] w fun e w' => e = .returned (rdV r (.slice none 0 0)) ∧ Below w.heap.size w w' := by
  have HFL := hid' (rflag_any 1 fl st l 8 false (by omega) h8)
  have HFM := hid' (rflag_any 1 fl st l 32 true (by omega) h32)
  have hs1 : (st == 0) = false := by simp [hs]
  have hhd : Fm.head 1 fl = 5 := by unfold Fm.head; simp [h8, h32]
  have hpd : Fm.pads fl l = 0 := by unfold Fm.pads; simp [h8]
  have hsz1 : Fm.sized 1 fl l.length = decide (5 ≤ l.length) := by simp [Fm.sized, hhd]
  have hr2 : (if 5 ≤ l.length then .ok (Fm.prio l (l.drop 5)) else .bad true 6) = r := by
    rw [← hr]
    by_cases h5 : 5 ≤ l.length
    · have e6 : (l.drop 5).take (l.length - 5) = l.drop 5 := by rw [List.take_of_length_le (by rw [List.length_drop]; omega)]
      simp [Fm.parse, Fm.mis, hsz1, h5, Fm.say, hs, hhd, hpd, h32, e6]
    · simp [Fm.parse, Fm.mis, hsz1, h5, hs]
  clear hr h8 h32 hhd hpd hsz1
  by_cases h5 : 5 ≤ l.length
  · have H5 := hid' h5
    have h5i : ¬ (l.length : Int) < 5 := by omega
    have h5j : (5 : Int) ≤ (l.length : Int) := by omega
    rw [if_pos h5] at hr2
    obtain ⟨u, hu⟩ : ∃ u, l.drop 5 = u := ⟨_, rfl⟩
    have hcu := cut_rest l 5
    rw [hu] at hcu hr2
    have hub : u.length ≤ 140737488355328 := by rw [← hu, List.length_drop]; omega
    obtain ⟨pn, po, pw, hpr⟩ : ∃ (pn : Int) (po : Bool) (pw : Int), ∀ x, Fm.prio l x = ⟨x, 0, 0, pn, pw, po, 0, []⟩ := ⟨_, _, _, fun x => rfl⟩
    have HPR := hid' (hpr [])
    clear hu
    obtain rfl : r = .ok ⟨u, 0, 0, pn, pw, po, 0, []⟩ := by rw [← hr2, hpr]
    have hct := cut_ends u u.length
    rw [List.take_length] at hct
    have hlz : ¬ (u.length : Int) < 0 := by omega
    clear hr2 hpr
    go_enter Try.func53, Try.ntmps53
    go_wp2_with (refine wpl_open _ rfl rfl rfl rfl rfl rfl 1 fl st l (by kernel_rfl) ?_)
    intro b1 b2 b3 w0 hF
    obtain ⟨c0, c1, c2, c3⟩ := frC_cells hF.a1
    have HF := hid' hF
    clear hF
    go_wp2_with (refine wpl_alloc 27 rfl rfl _ zeroParts ?_)
    intro b4 w4 hg4 ha4 hb4
    have HN24 : Hid (b2 ≠ b4) := hid' (by have := HF.out.a2.lt; omega)
    have HG4 : Hid (w.heap.size ≤ b4) := hid' (Nat.le_trans HF.out.bel.size hg4)
    have hA4 : Ar w4 b4 27 ptZ := ha4
    have HA4 := hid' hA4
    have HF4 := hid' (HF.out.keep hb4)
    obtain ⟨c0, c1, c2, c3⟩ := frC_cells HF4.out.a1
    clear hg4 ha4 hb4 HF hA4
    go_wp2_with (refine wpl_ldfr _ rfl rfl b1 (by kernel_rfl) _ _ _ _ HF4.out.a1 ?_)
    clear c0 c1 c2 c3
    go_wp2_with fail
    refine (HFL.out _).mono ?_
    rintro e w5 ⟨rfl, hb_w5⟩
    have HF4 := hid' (HF4.out.keep hb_w5)
    have HA4 := hid' (HA4.out.keep hb_w5)
    obtain ⟨c0, c1, c2, c3⟩ := frC_cells HF4.out.a1
    clear hb_w5
    go_wp2_with (refine wpl_ldfr _ rfl rfl b1 (by kernel_rfl) _ _ _ _ HF4.out.a1 ?_)
    clear c0 c1 c2 c3
    go_wp2_with fail
    refine (HFM.out _).mono ?_
    rintro e w6 ⟨rfl, hb_w6⟩
    have HF4 := hid' (HF4.out.keep hb_w6)
    have HA4 := hid' (HA4.out.keep hb_w6)
    obtain ⟨c0, c1, c2, c3⟩ := frC_cells HF4.out.a1
    clear hb_w6
    go_wp2_with fail
    refine (rdepends_any l b4 (.slice none 0 0) _ H5.out HA4.out).mono ?_
    rintro e w7 ⟨rfl, ha7, hu7⟩
    have HN14 : Hid (b1 ≠ b4) := hid' (HF4.out.a1.apart HA4.out (by decide))
    have HN34 : Hid (b3 ≠ b4) := hid' (HF4.out.a3.apart HA4.out (by decide))
    have HF4 := hid' (HF4.out.upd hu7 HG4.out HN14.out HN24.out HN34.out)
    rw [HPR.out] at ha7
    have HA4 := hid' ha7
    obtain ⟨c0, c1, c2, c3⟩ := frC_cells HF4.out.a1
    clear ha7 hu7
    go_upto_region 18 with fail
    have e0 := HA4.out.cell 0 _ rfl
    have fe0 := HA4.out.free 0
    go_upto_region 19 with fail
    have hu8 := upd_setCell w7 b4 0 (.string ⟨u.toArray⟩)
    have HA8 : Hid (Ar (w7.setCell ⟨b4, 0, none⟩ (.string ⟨u.toArray⟩)) b4 27 (ptC ⟨u, 0, 0, pn, pw, po, 0, []⟩ (.slice none 0 0))) := hid' (HA4.out.set 0 _)
    obtain ⟨w8, hw8⟩ : ∃ w8, w7.setCell ⟨b4, 0, none⟩ (.string ⟨u.toArray⟩) = w8 := ⟨_, rfl⟩
    rw [hw8] at hu8 HA8
    try rw [hw8]
    have hA18 := hu8.keep HF4.out.a1 (HF4.out.a1.apart HA4.out (by decide))
    obtain ⟨d0, d1, d2, d3⟩ := frC_cells hA18
    have HA29 := hid' (hu8.keep HF4.out.a2 HN24.out)
    have HA39 := hid' (hu8.keep HF4.out.a3 (HF4.out.a3.apart HA4.out (by decide)))
    have HB9 := hid' (HF4.out.bel.trans (hu8.below HG4.out))
    have HG2 := hid' HF4.out.g2
    have HG3 := hid' HF4.out.g3
    clear hw8 hu8 HF4 hA18 c0 c1 c2 c3 e0 fe0
    go_wp2_with (first | refine wpl_ldf _ rfl rfl b4 (by kernel_rfl) _ _ HA8.out ?_ | refine wpl_st2 _ _ _ _ rfl rfl rfl rfl w.heap.size b2 b3 ⟨u, 0, 0, pn, pw, po, 0, []⟩ none 0 0 false false 0 (by kernel_rfl) (by kernel_rfl) (by kernel_rfl) (by kernel_rfl) HA29.out HA39.out HG2.out HG3.out ?_)
    intro w9 hp9 hw9 hb9
    go_wp2
    exact bodyPost_ret (v := rdV (.ok ⟨u, 0, 0, pn, pw, po, 0, []⟩) (.slice none 0 0)) (by simp [results, Try.results53, asAddr, ldp hp9, ldw hw9]; rfl) rfl ⟨rfl, HB9.out.trans hb9⟩
  · obtain rfl : r = .bad true 6 := by rw [← hr2, if_neg h5]
    have h5i : (l.length : Int) < 5 := by omega
    have h5n : l.length < 5 := by omega
    clear hr2
    go_enter Try.func53, Try.ntmps53
    go_wp2_with (refine wpl_open _ rfl rfl rfl rfl rfl rfl 1 fl st l (by kernel_rfl) ?_)
    intro b1 b2 b3 w0 hF
    obtain ⟨c0, c1, c2, c3⟩ := frC_cells hF.a1
    have HF := hid' hF
    clear hF
    go_wp2_with (refine wpl_alloc 27 rfl rfl _ zeroParts ?_)
    intro b4 w4 hg4 ha4 hb4
    have HN24 : Hid (b2 ≠ b4) := hid' (by have := HF.out.a2.lt; omega)
    have HG4 : Hid (w.heap.size ≤ b4) := hid' (Nat.le_trans HF.out.bel.size hg4)
    have hA4 : Ar w4 b4 27 ptZ := ha4
    have HA4 := hid' hA4
    have HF4 := hid' (HF.out.keep hb4)
    obtain ⟨c0, c1, c2, c3⟩ := frC_cells HF4.out.a1
    clear hg4 ha4 hb4 HF hA4
    go_wp2_with (refine wpl_ldfr _ rfl rfl b1 (by kernel_rfl) _ _ _ _ HF4.out.a1 ?_)
    clear c0 c1 c2 c3
    go_wp2_with fail
    refine (HFL.out _).mono ?_
    rintro e w5 ⟨rfl, hb_w5⟩
    have HF4 := hid' (HF4.out.keep hb_w5)
    have HA4 := hid' (HA4.out.keep hb_w5)
    obtain ⟨c0, c1, c2, c3⟩ := frC_cells HF4.out.a1
    clear hb_w5
    go_wp2_with (refine wpl_ldfr _ rfl rfl b1 (by kernel_rfl) _ _ _ _ HF4.out.a1 ?_)
    clear c0 c1 c2 c3
    go_wp2_with fail
    refine (HFM.out _).mono ?_
    rintro e w6 ⟨rfl, hb_w6⟩
    have HF4 := hid' (HF4.out.keep hb_w6)
    have HA4 := hid' (HA4.out.keep hb_w6)
    obtain ⟨c0, c1, c2, c3⟩ := frC_cells HF4.out.a1
    clear hb_w6
    have p4 := ptZ_cells HA4.out
    have p2 := ptZ_cells HF4.out.a2
    have p3 := wgZ_cells HF4.out.a3
    obtain ⟨⟨u0, u1, u2, u3, u4, u5, u6, u7⟩, _⟩ := p4
    have hne : b3 ≠ b2 := HF4.out.a3.apart HF4.out.a2 (by decide)
    have hne' := Ne.symm hne
    clear p2 p3
    go_wp2_with fail
    go_region_with (go_at_call 57; refine (rconn_any 6 _).mono ?_; rintro e wx ⟨rfl, hbx⟩; have hBx : Below w6.heap.size w6 wx := (below_two ((Below.refl _ _).drew) hbx); have q4 := ptZ_cells (HA4.out.keep hBx); obtain ⟨⟨t0, t1, t2, t3, t4, t5, t6, t7⟩, _⟩ := q4; have q2 := ptZ_cells (HF4.out.a2.keep hBx); obtain ⟨⟨x0, x1, x2, x3, x4, x5, x6, x7⟩, f0, f1, f2, f3, f4, f5, f6, f7⟩ := q2; have q3 := wgZ_cells (HF4.out.a3.keep hBx); obtain ⟨⟨y0, y1, y2⟩, g0, g1, g2⟩ := q3; simp only [wgC])
    all_goals
      go_wp2
      obtain ⟨hA1, hU1⟩ := st8 (HF4.out.a2.keep hBx) (.string ⟨#[]⟩) (.int .i64 0) (.int .i64 0) (.int .i64 0) (.int .i64 0) (.bool false) (.int .i64 0) (.slice none 0 0)
      obtain ⟨hA2, hU2⟩ := st3 (hU1.keep (HF4.out.a3.keep hBx) hne) (.bool true) (.bool true) (.int .i64 6)
      have l1 := ld_parts (hU2.keep hA1 hne')
      have l2 := ld_wrong hA2
      exact bodyPost_ret (v := rdV (.bad true 6) (.slice none 0 0)) (by simp [results, Try.results53, asAddr, l1, l2]; rfl) rfl ⟨rfl, ((below_two HF4.out.bel hBx).trans (hU1.below HF4.out.g2)).trans (hU2.below HF4.out.g3)⟩

set_option maxHeartbeats 4000000 in
set_option maxRecDepth 20000 in
theorem rpadded_head10 (fl st : Int) (l : List UInt8) (r : Fm.Rd) (hs : st ≠ 0) (h8 : Fm.has fl 8 = true) (h32 : Fm.has fl 32 = false) (hsz : l.length ≤ 140737488355328) (hr : Fm.parse 1 fl st l = r) (w : World) : Calls Try.prog 53 #[.agg (frC 1 fl st l)] w fun e w' => e = .returned (rdV r (.slice none 0 0)) ∧ Below w.heap.size w w' := by
  have HFL := hid' (rflag_any 1 fl st l 8 true (by omega) h8)
  have HFM := hid' (rflag_any 1 fl st l 32 false (by omega) h32)
  have hs1 : (st == 0) = false := by simp [hs]
  have hhd : Fm.head 1 fl = 1 := by unfold Fm.head; simp [h8, h32]
  by_cases hl : l = []
  · subst hl
    obtain rfl : r = .bad true 6 := by
      rw [← hr]
      simp [Fm.parse, Fm.mis, Fm.sized, hs, hhd]
    clear hr h8 h32 hhd hsz HFM
    go_enter Try.func53, Try.ntmps53
    go_wp2_with (refine wpl_open _ rfl rfl rfl rfl rfl rfl 1 fl st [] (by kernel_rfl) ?_)
    intro b1 b2 b3 w0 hF
    obtain ⟨c0, c1, c2, c3⟩ := frC_cells hF.a1
    have HF := hid' hF
    clear hF
    go_wp2_with (refine wpl_alloc 27 rfl rfl _ zeroParts ?_)
    intro b4 w4 hg4 ha4 hb4
    have HN24 : Hid (b2 ≠ b4) := hid' (by have := HF.out.a2.lt; omega)
    have HG4 : Hid (w.heap.size ≤ b4) := hid' (Nat.le_trans HF.out.bel.size hg4)
    have hA4 : Ar w4 b4 27 ptZ := ha4
    have HA4 := hid' hA4
    have HF4 := hid' (HF.out.keep hb4)
    obtain ⟨c0, c1, c2, c3⟩ := frC_cells HF4.out.a1
    clear hg4 ha4 hb4 HF hA4
    go_wp2_with (refine wpl_ldfr _ rfl rfl b1 (by kernel_rfl) _ _ _ _ HF4.out.a1 ?_)
    clear c0 c1 c2 c3
    go_wp2_with fail
    refine (HFL.out _).mono ?_
    rintro e w5 ⟨rfl, hb_w5⟩
    have HF4 := hid' (HF4.out.keep hb_w5)
    have HA4 := hid' (HA4.out.keep hb_w5)
    obtain ⟨c0, c1, c2, c3⟩ := frC_cells HF4.out.a1
    clear hb_w5
    have p4 := ptZ_cells HA4.out
    have p2 := ptZ_cells HF4.out.a2
    have p3 := wgZ_cells HF4.out.a3
    obtain ⟨⟨u0, u1, u2, u3, u4, u5, u6, u7⟩, _⟩ := p4
    have hne : b3 ≠ b2 := HF4.out.a3.apart HF4.out.a2 (by decide)
    have hne' := Ne.symm hne
    clear p2 p3
    go_wp2_with fail
    go_region_with (go_at_call 57; refine (rconn_any 6 _).mono ?_; rintro e wx ⟨rfl, hbx⟩; have hBx : Below w5.heap.size w5 wx := (below_two ((Below.refl _ _).drew) hbx); have q4 := ptZ_cells (HA4.out.keep hBx); obtain ⟨⟨t0, t1, t2, t3, t4, t5, t6, t7⟩, _⟩ := q4; have q2 := ptZ_cells (HF4.out.a2.keep hBx); obtain ⟨⟨x0, x1, x2, x3, x4, x5, x6, x7⟩, f0, f1, f2, f3, f4, f5, f6, f7⟩ := q2; have q3 := wgZ_cells (HF4.out.a3.keep hBx); obtain ⟨⟨y0, y1, y2⟩, g0, g1, g2⟩ := q3; simp only [wgC])
    all_goals
      go_wp2
      obtain ⟨hA1, hU1⟩ := st8 (HF4.out.a2.keep hBx) (.string ⟨#[]⟩) (.int .i64 0) (.int .i64 0) (.int .i64 0) (.int .i64 0) (.bool false) (.int .i64 0) (.slice none 0 0)
      obtain ⟨hA2, hU2⟩ := st3 (hU1.keep (HF4.out.a3.keep hBx) hne) (.bool true) (.bool true) (.int .i64 6)
      have l1 := ld_parts (hU2.keep hA1 hne')
      have l2 := ld_wrong hA2
      exact bodyPost_ret (v := rdV (.bad true 6) (.slice none 0 0)) (by simp [results, Try.results53, asAddr, l1, l2]; rfl) rfl ⟨rfl, ((below_two HF4.out.bel hBx).trans (hU1.below HF4.out.g2)).trans (hU2.below HF4.out.g3)⟩
  have hl0 : 0 < l.length := by cases l with | nil => exact absurd rfl hl | cons a s => simp
  have hi0 : (0 : Int) < (l.length : Int) := by omega
  have h1i : (1 : Int) ≤ (l.length : Int) := by omega
  have hne0 : ((l.length : Int) == 0) = false := by simp; omega
  have hne0n : (l.length == 0) = false := by simp; omega
  have hb0 : 0 < (⟨l.toArray⟩ : ByteArray).size := by show 0 < l.length; omega
  obtain ⟨d, hd⟩ : ∃ d, (⟨l.toArray⟩ : ByteArray)[0] = d := ⟨_, rfl⟩
  have d256 := UInt8.toNat_lt d
  have hwd := wrap_byte d
  obtain ⟨t, ht⟩ : ∃ t, l.drop 1 = t := ⟨_, rfl⟩
  have hcr := cut_rest l 1
  rw [ht] at hcr
  have htl : t.length = l.length - 1 := by rw [← ht, List.length_drop]
  have hpd : Fm.pads fl l = d.toNat := by
    unfold Fm.pads
    rw [h8, if_pos rfl]
    cases l with
    | nil => exact absurd rfl hl
    | cons a s =>
      have e0 : a = d := hd
      subst e0
      rfl
  obtain ⟨q, hq⟩ : ∃ q, d.toNat = q := ⟨_, rfl⟩
  have e1 : l.length - 1 = t.length := htl.symm
  have hsz1 : Fm.sized 1 fl l.length = decide (True) := by simp [Fm.sized, hhd]; omega
  have hr2 : (if t.length < q then .bad true 1 else .ok ⟨t.take (t.length - q), 0, 0, 0, 0, false, 0, []⟩) = r := by
    rw [← hr]
    simp [Fm.parse, Fm.mis, hsz1, Fm.say, hs, hhd, hpd, hq, h32, ht, e1]
  rw [hq] at hwd d256
  have HD : Hid (d.toNat = q) := hid' hq
  have htb : t.length ≤ 140737488355328 := by omega
  clear hr h8 h32 hhd hpd ht htl hl hsz hsz1 e1
  by_cases hlt : t.length < q
  · obtain rfl : r = .bad true 1 := by rw [← hr2, if_pos hlt]
    have hlti : (t.length : Int) < (q : Int) := by omega
    clear hr2
    go_enter Try.func53, Try.ntmps53
    go_wp2_with (refine wpl_open _ rfl rfl rfl rfl rfl rfl 1 fl st l (by kernel_rfl) ?_)
    intro b1 b2 b3 w0 hF
    obtain ⟨c0, c1, c2, c3⟩ := frC_cells hF.a1
    have HF := hid' hF
    clear hF
    go_wp2_with (refine wpl_alloc 27 rfl rfl _ zeroParts ?_)
    intro b4 w4 hg4 ha4 hb4
    have HN24 : Hid (b2 ≠ b4) := hid' (by have := HF.out.a2.lt; omega)
    have HG4 : Hid (w.heap.size ≤ b4) := hid' (Nat.le_trans HF.out.bel.size hg4)
    have hA4 : Ar w4 b4 27 ptZ := ha4
    have HA4 := hid' hA4
    have HF4 := hid' (HF.out.keep hb4)
    obtain ⟨c0, c1, c2, c3⟩ := frC_cells HF4.out.a1
    clear hg4 ha4 hb4 HF hA4
    go_wp2_with (refine wpl_ldfr _ rfl rfl b1 (by kernel_rfl) _ _ _ _ HF4.out.a1 ?_)
    clear c0 c1 c2 c3
    go_wp2_with fail
    refine (HFL.out _).mono ?_
    rintro e w5 ⟨rfl, hb_w5⟩
    have HF4 := hid' (HF4.out.keep hb_w5)
    have HA4 := hid' (HA4.out.keep hb_w5)
    obtain ⟨c0, c1, c2, c3⟩ := frC_cells HF4.out.a1
    clear hb_w5
    go_wp2_with (refine wpl_ldfr _ rfl rfl b1 (by kernel_rfl) _ _ _ _ HF4.out.a1 ?_)
    clear c0 c1 c2 c3
    go_wp2_with fail
    refine (HFM.out _).mono ?_
    rintro e w6 ⟨rfl, hb_w6⟩
    have HF4 := hid' (HF4.out.keep hb_w6)
    have HA4 := hid' (HA4.out.keep hb_w6)
    obtain ⟨c0, c1, c2, c3⟩ := frC_cells HF4.out.a1
    clear hb_w6
    go_wp2_with fail
    refine (rconn_any 1 _).mono ?_
    rintro e w1 ⟨rfl, hb1⟩
    have HF1 := hid' (HF4.out.keep hb1)
    clear hb1
    go_wp2_with (refine wpl_st2 _ _ _ _ rfl rfl rfl rfl w.heap.size b2 b3 Fm.none' none 0 0 true true 1 (by kernel_rfl) (by kernel_rfl) (by kernel_rfl) (by kernel_rfl) HF1.out.a2 HF1.out.a3 HF1.out.g2 HF1.out.g3 ?_)
    intro w3 hp3 hw3 hb3
    go_wp2
    exact bodyPost_ret (v := rdV (.bad true 1) (.slice none 0 0)) (by simp [results, Try.results53, asAddr, ldp hp3, ldw hw3]; rfl) rfl ⟨rfl, HF1.out.bel.trans hb3⟩
  · obtain ⟨m, hm⟩ : ∃ m, t.length - q = m := ⟨_, rfl⟩
    obtain ⟨x, hx⟩ : ∃ x, t.take m = x := ⟨_, rfl⟩
    obtain rfl : r = .ok ⟨x, 0, 0, 0, 0, false, 0, []⟩ := by rw [← hr2, if_neg hlt, hm, hx]
    have hlti : ¬ (t.length : Int) < (q : Int) := by omega
    have hmi : (t.length : Int) - (q : Int) = (m : Int) := by omega
    have hml : (m : Int) ≤ (t.length : Int) := by omega
    have hmn : m ≤ t.length := by omega
    have hct := cut_ends t m
    rw [hx] at hct
    clear hr2 hm hx
    go_enter Try.func53, Try.ntmps53
    go_wp2_with (refine wpl_open _ rfl rfl rfl rfl rfl rfl 1 fl st l (by kernel_rfl) ?_)
    intro b1 b2 b3 w0 hF
    obtain ⟨c0, c1, c2, c3⟩ := frC_cells hF.a1
    have HF := hid' hF
    clear hF
    go_wp2_with (refine wpl_alloc 27 rfl rfl _ zeroParts ?_)
    intro b4 w4 hg4 ha4 hb4
    have HN24 : Hid (b2 ≠ b4) := hid' (by have := HF.out.a2.lt; omega)
    have HG4 : Hid (w.heap.size ≤ b4) := hid' (Nat.le_trans HF.out.bel.size hg4)
    have hA4 : Ar w4 b4 27 ptZ := ha4
    have HA4 := hid' hA4
    have HF4 := hid' (HF.out.keep hb4)
    obtain ⟨c0, c1, c2, c3⟩ := frC_cells HF4.out.a1
    clear hg4 ha4 hb4 HF hA4
    go_wp2_with (refine wpl_ldfr _ rfl rfl b1 (by kernel_rfl) _ _ _ _ HF4.out.a1 ?_)
    clear c0 c1 c2 c3
    go_wp2_with fail
    refine (HFL.out _).mono ?_
    rintro e w5 ⟨rfl, hb_w5⟩
    have HF4 := hid' (HF4.out.keep hb_w5)
    have HA4 := hid' (HA4.out.keep hb_w5)
    obtain ⟨c0, c1, c2, c3⟩ := frC_cells HF4.out.a1
    clear hb_w5
    go_wp2_with (refine wpl_ldfr _ rfl rfl b1 (by kernel_rfl) _ _ _ _ HF4.out.a1 ?_)
    clear c0 c1 c2 c3
    go_wp2_with fail
    refine (HFM.out _).mono ?_
    rintro e w6 ⟨rfl, hb_w6⟩
    have HF4 := hid' (HF4.out.keep hb_w6)
    have HA4 := hid' (HA4.out.keep hb_w6)
    obtain ⟨c0, c1, c2, c3⟩ := frC_cells HF4.out.a1
    clear hb_w6
    go_upto_region 18 with fail
    have e0 := HA4.out.cell 0 _ rfl
    have fe0 := HA4.out.free 0
    go_upto_region 19 with fail
    have hu8 := upd_setCell w6 b4 0 (.string ⟨x.toArray⟩)
    have HA8 : Hid (Ar (w6.setCell ⟨b4, 0, none⟩ (.string ⟨x.toArray⟩)) b4 27 (ptC ⟨x, 0, 0, 0, 0, false, 0, []⟩ (.slice none 0 0))) := hid' (HA4.out.set 0 _)
    obtain ⟨w8, hw8⟩ : ∃ w8, w6.setCell ⟨b4, 0, none⟩ (.string ⟨x.toArray⟩) = w8 := ⟨_, rfl⟩
    rw [hw8] at hu8 HA8
    try rw [hw8]
    have hA18 := hu8.keep HF4.out.a1 (HF4.out.a1.apart HA4.out (by decide))
    obtain ⟨d0, d1, d2, d3⟩ := frC_cells hA18
    have HA29 := hid' (hu8.keep HF4.out.a2 HN24.out)
    have HA39 := hid' (hu8.keep HF4.out.a3 (HF4.out.a3.apart HA4.out (by decide)))
    have HB9 := hid' (HF4.out.bel.trans (hu8.below HG4.out))
    have HG2 := hid' HF4.out.g2
    have HG3 := hid' HF4.out.g3
    clear hw8 hu8 HF4 hA18 c0 c1 c2 c3 e0 fe0
    go_wp2_with (first | refine wpl_ldf _ rfl rfl b4 (by kernel_rfl) _ _ HA8.out ?_ | refine wpl_st2 _ _ _ _ rfl rfl rfl rfl w.heap.size b2 b3 ⟨x, 0, 0, 0, 0, false, 0, []⟩ none 0 0 false false 0 (by kernel_rfl) (by kernel_rfl) (by kernel_rfl) (by kernel_rfl) HA29.out HA39.out HG2.out HG3.out ?_)
    intro w9 hp9 hw9 hb9
    go_wp2
    exact bodyPost_ret (v := rdV (.ok ⟨x, 0, 0, 0, 0, false, 0, []⟩) (.slice none 0 0)) (by simp [results, Try.results53, asAddr, ldp hp9, ldw hw9]; rfl) rfl ⟨rfl, HB9.out.trans hb9⟩

set_option maxHeartbeats 4000000 in
set_option maxRecDepth 20000 in
theorem rpadded_head11 (fl st : Int) (l : List UInt8) (r : Fm.Rd) (hs : st ≠ 0) (h8 : Fm.has fl 8 = true) (h32 : Fm.has fl 32 = true) (hsz : l.length ≤ 140737488355328) (hr : Fm.parse 1 fl st l = r) (w : World) : Calls Try.prog 53 #[.agg (frC 1 fl st l)] w fun e w' => e = .returned (rdV r (.slice none 0 0)) ∧ Below w.heap.size w w' := by
  have HFL := hid' (rflag_any 1 fl st l 8 true (by omega) h8)
  have HFM := hid' (rflag_any 1 fl st l 32 true (by omega) h32)
  have hs1 : (st == 0) = false := by simp [hs]
  have hhd : Fm.head 1 fl = 6 := by unfold Fm.head; simp [h8, h32]
  by_cases hl : l = []
  · subst hl
    obtain rfl : r = .bad true 6 := by
      rw [← hr]
      simp [Fm.parse, Fm.mis, Fm.sized, hs, hhd]
    clear hr h8 h32 hhd hsz HFM
    go_enter Try.func53, Try.ntmps53
    go_wp2_with (refine wpl_open _ rfl rfl rfl rfl rfl rfl 1 fl st [] (by kernel_rfl) ?_)
    intro b1 b2 b3 w0 hF
    obtain ⟨c0, c1, c2, c3⟩ := frC_cells hF.a1
    have HF := hid' hF
    clear hF
    go_wp2_with (refine wpl_alloc 27 rfl rfl _ zeroParts ?_)
    intro b4 w4 hg4 ha4 hb4
    have HN24 : Hid (b2 ≠ b4) := hid' (by have := HF.out.a2.lt; omega)
    have HG4 : Hid (w.heap.size ≤ b4) := hid' (Nat.le_trans HF.out.bel.size hg4)
    have hA4 : Ar w4 b4 27 ptZ := ha4
    have HA4 := hid' hA4
    have HF4 := hid' (HF.out.keep hb4)
    obtain ⟨c0, c1, c2, c3⟩ := frC_cells HF4.out.a1
    clear hg4 ha4 hb4 HF hA4
    go_wp2_with (refine wpl_ldfr _ rfl rfl b1 (by kernel_rfl) _ _ _ _ HF4.out.a1 ?_)
    clear c0 c1 c2 c3
    go_wp2_with fail
    refine (HFL.out _).mono ?_
    rintro e w5 ⟨rfl, hb_w5⟩
    have HF4 := hid' (HF4.out.keep hb_w5)
    have HA4 := hid' (HA4.out.keep hb_w5)
    obtain ⟨c0, c1, c2, c3⟩ := frC_cells HF4.out.a1
    clear hb_w5
    have p4 := ptZ_cells HA4.out
    have p2 := ptZ_cells HF4.out.a2
    have p3 := wgZ_cells HF4.out.a3
    obtain ⟨⟨u0, u1, u2, u3, u4, u5, u6, u7⟩, _⟩ := p4
    have hne : b3 ≠ b2 := HF4.out.a3.apart HF4.out.a2 (by decide)
    have hne' := Ne.symm hne
    clear p2 p3
    go_wp2_with fail
    go_region_with (go_at_call 57; refine (rconn_any 6 _).mono ?_; rintro e wx ⟨rfl, hbx⟩; have hBx : Below w5.heap.size w5 wx := (below_two ((Below.refl _ _).drew) hbx); have q4 := ptZ_cells (HA4.out.keep hBx); obtain ⟨⟨t0, t1, t2, t3, t4, t5, t6, t7⟩, _⟩ := q4; have q2 := ptZ_cells (HF4.out.a2.keep hBx); obtain ⟨⟨x0, x1, x2, x3, x4, x5, x6, x7⟩, f0, f1, f2, f3, f4, f5, f6, f7⟩ := q2; have q3 := wgZ_cells (HF4.out.a3.keep hBx); obtain ⟨⟨y0, y1, y2⟩, g0, g1, g2⟩ := q3; simp only [wgC])
    all_goals
      go_wp2
      obtain ⟨hA1, hU1⟩ := st8 (HF4.out.a2.keep hBx) (.string ⟨#[]⟩) (.int .i64 0) (.int .i64 0) (.int .i64 0) (.int .i64 0) (.bool false) (.int .i64 0) (.slice none 0 0)
      obtain ⟨hA2, hU2⟩ := st3 (hU1.keep (HF4.out.a3.keep hBx) hne) (.bool true) (.bool true) (.int .i64 6)
      have l1 := ld_parts (hU2.keep hA1 hne')
      have l2 := ld_wrong hA2
      exact bodyPost_ret (v := rdV (.bad true 6) (.slice none 0 0)) (by simp [results, Try.results53, asAddr, l1, l2]; rfl) rfl ⟨rfl, ((below_two HF4.out.bel hBx).trans (hU1.below HF4.out.g2)).trans (hU2.below HF4.out.g3)⟩
  have hl0 : 0 < l.length := by cases l with | nil => exact absurd rfl hl | cons a s => simp
  have hi0 : (0 : Int) < (l.length : Int) := by omega
  have h1i : (1 : Int) ≤ (l.length : Int) := by omega
  have hne0 : ((l.length : Int) == 0) = false := by simp; omega
  have hne0n : (l.length == 0) = false := by simp; omega
  have hb0 : 0 < (⟨l.toArray⟩ : ByteArray).size := by show 0 < l.length; omega
  obtain ⟨d, hd⟩ : ∃ d, (⟨l.toArray⟩ : ByteArray)[0] = d := ⟨_, rfl⟩
  have d256 := UInt8.toNat_lt d
  have hwd := wrap_byte d
  obtain ⟨t, ht⟩ : ∃ t, l.drop 1 = t := ⟨_, rfl⟩
  have hcr := cut_rest l 1
  rw [ht] at hcr
  have htl : t.length = l.length - 1 := by rw [← ht, List.length_drop]
  have hpd : Fm.pads fl l = d.toNat := by
    unfold Fm.pads
    rw [h8, if_pos rfl]
    cases l with
    | nil => exact absurd rfl hl
    | cons a s =>
      have e0 : a = d := hd
      subst e0
      rfl
  obtain ⟨q, hq⟩ : ∃ q, d.toNat = q := ⟨_, rfl⟩
  have e1 : l.length - 1 = t.length := htl.symm
  have hsz1 : Fm.sized 1 fl l.length = decide (5 ≤ t.length) := by simp [Fm.sized, hhd]; omega
  have hd6 : l.drop 6 = t.drop 5 := by rw [← ht, List.drop_drop]
  have hr2 : (if 5 ≤ t.length then (if (t.drop 5).length < q then .bad true 1 else .ok (Fm.prio t ((t.drop 5).take ((t.drop 5).length - q)))) else .bad true 6) = r := by
    rw [← hr]
    have e6 : l.length - 6 = (t.drop 5).length := by rw [List.length_drop]; omega
    by_cases h5 : 5 ≤ t.length
    · simp [Fm.parse, Fm.mis, hsz1, h5, Fm.say, hs, hhd, hpd, hq, h32, ht, hd6, e6]
    · simp [Fm.parse, Fm.mis, hsz1, h5, hs]
  rw [hq] at hwd d256
  have HD : Hid (d.toNat = q) := hid' hq
  have htb : t.length ≤ 140737488355328 := by omega
  clear hr h8 h32 hhd hpd ht htl hl hsz hsz1 e1 hd6
  by_cases h5 : 5 ≤ t.length
  · have H5 := hid' h5
    have h5i : ¬ (t.length : Int) < 5 := by omega
    have h5j : (5 : Int) ≤ (t.length : Int) := by omega
    rw [if_pos h5] at hr2
    obtain ⟨u, hu⟩ : ∃ u, t.drop 5 = u := ⟨_, rfl⟩
    have hcu := cut_rest t 5
    rw [hu] at hcu hr2
    have hub : u.length ≤ 140737488355328 := by rw [← hu, List.length_drop]; omega
    obtain ⟨pn, po, pw, hpr⟩ : ∃ (pn : Int) (po : Bool) (pw : Int), ∀ x, Fm.prio t x = ⟨x, 0, 0, pn, pw, po, 0, []⟩ := ⟨_, _, _, fun x => rfl⟩
    have HPR := hid' (hpr [])
    clear hu
    by_cases hlt : u.length < q
    · obtain rfl : r = .bad true 1 := by rw [← hr2, if_pos hlt]
      have hlti : (u.length : Int) < (q : Int) := by omega
      clear hr2 hpr
      go_enter Try.func53, Try.ntmps53
      go_wp2_with (refine wpl_open _ rfl rfl rfl rfl rfl rfl 1 fl st l (by kernel_rfl) ?_)
      intro b1 b2 b3 w0 hF
      obtain ⟨c0, c1, c2, c3⟩ := frC_cells hF.a1
      have HF := hid' hF
      clear hF
      go_wp2_with (refine wpl_alloc 27 rfl rfl _ zeroParts ?_)
      intro b4 w4 hg4 ha4 hb4
      have HN24 : Hid (b2 ≠ b4) := hid' (by have := HF.out.a2.lt; omega)
      have HG4 : Hid (w.heap.size ≤ b4) := hid' (Nat.le_trans HF.out.bel.size hg4)
      have hA4 : Ar w4 b4 27 ptZ := ha4
      have HA4 := hid' hA4
      have HF4 := hid' (HF.out.keep hb4)
      obtain ⟨c0, c1, c2, c3⟩ := frC_cells HF4.out.a1
      clear hg4 ha4 hb4 HF hA4
      go_wp2_with (refine wpl_ldfr _ rfl rfl b1 (by kernel_rfl) _ _ _ _ HF4.out.a1 ?_)
      clear c0 c1 c2 c3
      go_wp2_with fail
      refine (HFL.out _).mono ?_
      rintro e w5 ⟨rfl, hb_w5⟩
      have HF4 := hid' (HF4.out.keep hb_w5)
      have HA4 := hid' (HA4.out.keep hb_w5)
      obtain ⟨c0, c1, c2, c3⟩ := frC_cells HF4.out.a1
      clear hb_w5
      go_wp2_with (refine wpl_ldfr _ rfl rfl b1 (by kernel_rfl) _ _ _ _ HF4.out.a1 ?_)
      clear c0 c1 c2 c3
      go_wp2_with fail
      refine (HFM.out _).mono ?_
      rintro e w6 ⟨rfl, hb_w6⟩
      have HF4 := hid' (HF4.out.keep hb_w6)
      have HA4 := hid' (HA4.out.keep hb_w6)
      obtain ⟨c0, c1, c2, c3⟩ := frC_cells HF4.out.a1
      clear hb_w6
      go_wp2_with fail
      refine (rdepends_any t b4 (.slice none 0 0) _ H5.out HA4.out).mono ?_
      rintro e w7 ⟨rfl, ha7, hu7⟩
      have HN14 : Hid (b1 ≠ b4) := hid' (HF4.out.a1.apart HA4.out (by decide))
      have HN34 : Hid (b3 ≠ b4) := hid' (HF4.out.a3.apart HA4.out (by decide))
      have HF4 := hid' (HF4.out.upd hu7 HG4.out HN14.out HN24.out HN34.out)
      rw [HPR.out] at ha7
      have HA4 := hid' ha7
      obtain ⟨c0, c1, c2, c3⟩ := frC_cells HF4.out.a1
      clear ha7 hu7
      go_wp2_with fail
      refine (rconn_any 1 _).mono ?_
      rintro e w1 ⟨rfl, hb1⟩
      have HF1 := hid' (HF4.out.keep hb1)
      clear hb1
      go_wp2_with (refine wpl_st2 _ _ _ _ rfl rfl rfl rfl w.heap.size b2 b3 Fm.none' none 0 0 true true 1 (by kernel_rfl) (by kernel_rfl) (by kernel_rfl) (by kernel_rfl) HF1.out.a2 HF1.out.a3 HF1.out.g2 HF1.out.g3 ?_)
      intro w3 hp3 hw3 hb3
      go_wp2
      exact bodyPost_ret (v := rdV (.bad true 1) (.slice none 0 0)) (by simp [results, Try.results53, asAddr, ldp hp3, ldw hw3]; rfl) rfl ⟨rfl, HF1.out.bel.trans hb3⟩
    · obtain ⟨m, hm⟩ : ∃ m, u.length - q = m := ⟨_, rfl⟩
      obtain ⟨x, hx⟩ : ∃ x, u.take m = x := ⟨_, rfl⟩
      obtain rfl : r = .ok ⟨x, 0, 0, pn, pw, po, 0, []⟩ := by rw [← hr2, if_neg hlt, hm, hx, hpr]
      have hlti : ¬ (u.length : Int) < (q : Int) := by omega
      have hmi : (u.length : Int) - (q : Int) = (m : Int) := by omega
      have hml : (m : Int) ≤ (u.length : Int) := by omega
      have hmn : m ≤ u.length := by omega
      have hct := cut_ends u m
      rw [hx] at hct
      clear hr2 hm hx hpr
      go_enter Try.func53, Try.ntmps53
      go_wp2_with (refine wpl_open _ rfl rfl rfl rfl rfl rfl 1 fl st l (by kernel_rfl) ?_)
      intro b1 b2 b3 w0 hF
      obtain ⟨c0, c1, c2, c3⟩ := frC_cells hF.a1
      have HF := hid' hF
      clear hF
      go_wp2_with (refine wpl_alloc 27 rfl rfl _ zeroParts ?_)
      intro b4 w4 hg4 ha4 hb4
      have HN24 : Hid (b2 ≠ b4) := hid' (by have := HF.out.a2.lt; omega)
      have HG4 : Hid (w.heap.size ≤ b4) := hid' (Nat.le_trans HF.out.bel.size hg4)
      have hA4 : Ar w4 b4 27 ptZ := ha4
      have HA4 := hid' hA4
      have HF4 := hid' (HF.out.keep hb4)
      obtain ⟨c0, c1, c2, c3⟩ := frC_cells HF4.out.a1
      clear hg4 ha4 hb4 HF hA4
      go_wp2_with (refine wpl_ldfr _ rfl rfl b1 (by kernel_rfl) _ _ _ _ HF4.out.a1 ?_)
      clear c0 c1 c2 c3
      go_wp2_with fail
      refine (HFL.out _).mono ?_
      rintro e w5 ⟨rfl, hb_w5⟩
      have HF4 := hid' (HF4.out.keep hb_w5)
      have HA4 := hid' (HA4.out.keep hb_w5)
      obtain ⟨c0, c1, c2, c3⟩ := frC_cells HF4.out.a1
      clear hb_w5
      go_wp2_with (refine wpl_ldfr _ rfl rfl b1 (by kernel_rfl) _ _ _ _ HF4.out.a1 ?_)
      clear c0 c1 c2 c3
      go_wp2_with fail
      refine (HFM.out _).mono ?_
      rintro e w6 ⟨rfl, hb_w6⟩
      have HF4 := hid' (HF4.out.keep hb_w6)
      have HA4 := hid' (HA4.out.keep hb_w6)
      obtain ⟨c0, c1, c2, c3⟩ := frC_cells HF4.out.a1
      clear hb_w6
      go_wp2_with fail
      refine (rdepends_any t b4 (.slice none 0 0) _ H5.out HA4.out).mono ?_
      rintro e w7 ⟨rfl, ha7, hu7⟩
      have HN14 : Hid (b1 ≠ b4) := hid' (HF4.out.a1.apart HA4.out (by decide))
      have HN34 : Hid (b3 ≠ b4) := hid' (HF4.out.a3.apart HA4.out (by decide))
      have HF4 := hid' (HF4.out.upd hu7 HG4.out HN14.out HN24.out HN34.out)
      rw [HPR.out] at ha7
      have HA4 := hid' ha7
      obtain ⟨c0, c1, c2, c3⟩ := frC_cells HF4.out.a1
      clear ha7 hu7
      go_upto_region 18 with fail
      have e0 := HA4.out.cell 0 _ rfl
      have fe0 := HA4.out.free 0
      go_upto_region 19 with fail
      have hu8 := upd_setCell w7 b4 0 (.string ⟨x.toArray⟩)
      have HA8 : Hid (Ar (w7.setCell ⟨b4, 0, none⟩ (.string ⟨x.toArray⟩)) b4 27 (ptC ⟨x, 0, 0, pn, pw, po, 0, []⟩ (.slice none 0 0))) := hid' (HA4.out.set 0 _)
      obtain ⟨w8, hw8⟩ : ∃ w8, w7.setCell ⟨b4, 0, none⟩ (.string ⟨x.toArray⟩) = w8 := ⟨_, rfl⟩
      rw [hw8] at hu8 HA8
      try rw [hw8]
      have hA18 := hu8.keep HF4.out.a1 (HF4.out.a1.apart HA4.out (by decide))
      obtain ⟨d0, d1, d2, d3⟩ := frC_cells hA18
      have HA29 := hid' (hu8.keep HF4.out.a2 HN24.out)
      have HA39 := hid' (hu8.keep HF4.out.a3 (HF4.out.a3.apart HA4.out (by decide)))
      have HB9 := hid' (HF4.out.bel.trans (hu8.below HG4.out))
      have HG2 := hid' HF4.out.g2
      have HG3 := hid' HF4.out.g3
      clear hw8 hu8 HF4 hA18 c0 c1 c2 c3 e0 fe0
      go_wp2_with (first | refine wpl_ldf _ rfl rfl b4 (by kernel_rfl) _ _ HA8.out ?_ | refine wpl_st2 _ _ _ _ rfl rfl rfl rfl w.heap.size b2 b3 ⟨x, 0, 0, pn, pw, po, 0, []⟩ none 0 0 false false 0 (by kernel_rfl) (by kernel_rfl) (by kernel_rfl) (by kernel_rfl) HA29.out HA39.out HG2.out HG3.out ?_)
      intro w9 hp9 hw9 hb9
      go_wp2
      exact bodyPost_ret (v := rdV (.ok ⟨x, 0, 0, pn, pw, po, 0, []⟩) (.slice none 0 0)) (by simp [results, Try.results53, asAddr, ldp hp9, ldw hw9]; rfl) rfl ⟨rfl, HB9.out.trans hb9⟩
  · obtain rfl : r = .bad true 6 := by rw [← hr2, if_neg h5]
    have h5i : (t.length : Int) < 5 := by omega
    have h5n : t.length < 5 := by omega
    clear hr2
    go_enter Try.func53, Try.ntmps53
    go_wp2_with (refine wpl_open _ rfl rfl rfl rfl rfl rfl 1 fl st l (by kernel_rfl) ?_)
    intro b1 b2 b3 w0 hF
    obtain ⟨c0, c1, c2, c3⟩ := frC_cells hF.a1
    have HF := hid' hF
    clear hF
    go_wp2_with (refine wpl_alloc 27 rfl rfl _ zeroParts ?_)
    intro b4 w4 hg4 ha4 hb4
    have HN24 : Hid (b2 ≠ b4) := hid' (by have := HF.out.a2.lt; omega)
    have HG4 : Hid (w.heap.size ≤ b4) := hid' (Nat.le_trans HF.out.bel.size hg4)
    have hA4 : Ar w4 b4 27 ptZ := ha4
    have HA4 := hid' hA4
    have HF4 := hid' (HF.out.keep hb4)
    obtain ⟨c0, c1, c2, c3⟩ := frC_cells HF4.out.a1
    clear hg4 ha4 hb4 HF hA4
    go_wp2_with (refine wpl_ldfr _ rfl rfl b1 (by kernel_rfl) _ _ _ _ HF4.out.a1 ?_)
    clear c0 c1 c2 c3
    go_wp2_with fail
    refine (HFL.out _).mono ?_
    rintro e w5 ⟨rfl, hb_w5⟩
    have HF4 := hid' (HF4.out.keep hb_w5)
    have HA4 := hid' (HA4.out.keep hb_w5)
    obtain ⟨c0, c1, c2, c3⟩ := frC_cells HF4.out.a1
    clear hb_w5
    go_wp2_with (refine wpl_ldfr _ rfl rfl b1 (by kernel_rfl) _ _ _ _ HF4.out.a1 ?_)
    clear c0 c1 c2 c3
    go_wp2_with fail
    refine (HFM.out _).mono ?_
    rintro e w6 ⟨rfl, hb_w6⟩
    have HF4 := hid' (HF4.out.keep hb_w6)
    have HA4 := hid' (HA4.out.keep hb_w6)
    obtain ⟨c0, c1, c2, c3⟩ := frC_cells HF4.out.a1
    clear hb_w6
    have p4 := ptZ_cells HA4.out
    have p2 := ptZ_cells HF4.out.a2
    have p3 := wgZ_cells HF4.out.a3
    obtain ⟨⟨u0, u1, u2, u3, u4, u5, u6, u7⟩, _⟩ := p4
    have hne : b3 ≠ b2 := HF4.out.a3.apart HF4.out.a2 (by decide)
    have hne' := Ne.symm hne
    clear p2 p3
    go_wp2_with fail
    go_region_with (go_at_call 57; refine (rconn_any 6 _).mono ?_; rintro e wx ⟨rfl, hbx⟩; have hBx : Below w6.heap.size w6 wx := (below_two ((Below.refl _ _).drew) hbx); have q4 := ptZ_cells (HA4.out.keep hBx); obtain ⟨⟨t0, t1, t2, t3, t4, t5, t6, t7⟩, _⟩ := q4; have q2 := ptZ_cells (HF4.out.a2.keep hBx); obtain ⟨⟨x0, x1, x2, x3, x4, x5, x6, x7⟩, f0, f1, f2, f3, f4, f5, f6, f7⟩ := q2; have q3 := wgZ_cells (HF4.out.a3.keep hBx); obtain ⟨⟨y0, y1, y2⟩, g0, g1, g2⟩ := q3; simp only [wgC])
    all_goals
      go_wp2
      obtain ⟨hA1, hU1⟩ := st8 (HF4.out.a2.keep hBx) (.string ⟨#[]⟩) (.int .i64 0) (.int .i64 0) (.int .i64 0) (.int .i64 0) (.bool false) (.int .i64 0) (.slice none 0 0)
      obtain ⟨hA2, hU2⟩ := st3 (hU1.keep (HF4.out.a3.keep hBx) hne) (.bool true) (.bool true) (.int .i64 6)
      have l1 := ld_parts (hU2.keep hA1 hne')
      have l2 := ld_wrong hA2
      exact bodyPost_ret (v := rdV (.bad true 6) (.slice none 0 0)) (by simp [results, Try.results53, asAddr, l1, l2]; rfl) rfl ⟨rfl, ((below_two HF4.out.bel hBx).trans (hU1.below HF4.out.g2)).trans (hU2.below HF4.out.g3)⟩

end Go.Proofs.Ythbidfcfkjamdaa
