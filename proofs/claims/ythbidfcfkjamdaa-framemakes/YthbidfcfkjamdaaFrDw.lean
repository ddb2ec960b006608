/-
  ostlerref07.whole: by its contract.
-/
import Derived.Test.YthbidfcfkjamdaaFrDx
namespace Go.Proofs.Ythbidfcfkjamdaa
open Go.RowKit

set_option maxHeartbeats 4000000 in
set_option maxRecDepth 20000 in
theorem rwhole_st (k fl st : Int) (l : List UInt8) (hs : st ≠ 0) (w : World) : Calls Try.prog 56 #[.agg (frC k fl st l)] w fun e w' => e = .returned (rdV (.bad true 1) (.slice none 0 0)) ∧ Below w.heap.size w w' := by
  have hs1 : (st != 0) = true := by simp [hs]
  go_enter Try.func56, Try.ntmps56
  go_wp2_with (refine wpl_open _ rfl rfl rfl rfl rfl rfl k fl st l (by kernel_rfl) ?_)
  intro b1 b2 b3 w0 hF
  obtain ⟨c0, c1, c2, c3⟩ := frC_cells hF.a1
  have HF := hid' hF
  clear hF
  go_wp2_with fail
  refine (rconn_any 1 _).mono ?_
  rintro e w1 ⟨rfl, hb1⟩
  have HF1 := hid' (HF.out.keep hb1)
  clear hb1
  go_wp2_with (refine wpl_st2 _ _ _ _ rfl rfl rfl rfl w.heap.size b2 b3 Fm.none' none 0 0 true true 1 (by kernel_rfl) (by kernel_rfl) (by kernel_rfl) (by kernel_rfl) HF1.out.a2 HF1.out.a3 HF1.out.g2 HF1.out.g3 ?_)
  intro w3 hp3 hw3 hb3
  go_wp2
  exact bodyPost_ret (v := rdV (.bad true 1) (.slice none 0 0)) (by simp [results, Try.results56, asAddr, ldp hp3, ldw hw3]; rfl) rfl ⟨rfl, HF1.out.bel.trans hb3⟩


set_option maxHeartbeats 4000000 in
set_option maxRecDepth 20000 in
theorem rwhole_ping (fl : Int) (l : List UInt8) (r : Fm.Rd) (hr : Fm.parse 6 fl 0 l = r) (w : World) : Calls Try.prog 56 #[.agg (frC 6 fl 0 l)] w fun e w' => e = .returned (rdV r (.slice none 0 0)) ∧ Below w.heap.size w w' := by
  by_cases h8 : l.length = 8
  · obtain rfl : r = .ok ⟨l, 0, 0, 0, 0, false, 0, []⟩ := by
      rw [← hr]
      simp [Fm.parse, Fm.mis, Fm.sized, Fm.say, h8]
    have h8i : ((l.length : Int) != 8) = false := by simp; omega
    have h8n : (l.length != 8) = false := by simp; omega
    clear hr
    go_enter Try.func56, Try.ntmps56
    go_wp2_with (refine wpl_open _ rfl rfl rfl rfl rfl rfl 6 fl 0 l (by kernel_rfl) ?_)
    intro b1 b2 b3 w0 hF
    obtain ⟨c0, c1, c2, c3⟩ := frC_cells hF.a1
    have HF := hid' hF
    clear hF
    go_wp2_with (refine wpl_st2 _ _ _ _ rfl rfl rfl rfl w.heap.size b2 b3 ⟨l, 0, 0, 0, 0, false, 0, []⟩ none 0 0 false false 0 (by kernel_rfl) (by kernel_rfl) (by kernel_rfl) (by kernel_rfl) HF.out.a2 HF.out.a3 HF.out.g2 HF.out.g3 ?_)
    intro w3 hp3 hw3 hb3
    go_wp2
    exact bodyPost_ret (v := rdV (.ok ⟨l, 0, 0, 0, 0, false, 0, []⟩) (.slice none 0 0)) (by simp [results, Try.results56, asAddr, ldp hp3, ldw hw3]; rfl) rfl ⟨rfl, HF.out.bel.trans hb3⟩
  · obtain rfl : r = .bad true 6 := by
      rw [← hr]
      simp [Fm.parse, Fm.mis, Fm.sized, h8]
    have h8i : ((l.length : Int) != 8) = true := by simp; omega
    have h8n : (l.length != 8) = true := by simp; omega
    clear hr
    go_enter Try.func56, Try.ntmps56
    go_wp2_with (refine wpl_open _ rfl rfl rfl rfl rfl rfl 6 fl 0 l (by kernel_rfl) ?_)
    intro b1 b2 b3 w0 hF
    obtain ⟨c0, c1, c2, c3⟩ := frC_cells hF.a1
    have HF := hid' hF
    clear hF
    go_wp2_with fail
    refine (rconn_any 6 _).mono ?_
    rintro e w1 ⟨rfl, hb1⟩
    have HF1 := hid' (HF.out.keep hb1)
    clear hb1
    go_wp2_with (refine wpl_st2 _ _ _ _ rfl rfl rfl rfl w.heap.size b2 b3 Fm.none' none 0 0 true true 6 (by kernel_rfl) (by kernel_rfl) (by kernel_rfl) (by kernel_rfl) HF1.out.a2 HF1.out.a3 HF1.out.g2 HF1.out.g3 ?_)
    intro w3 hp3 hw3 hb3
    go_wp2
    exact bodyPost_ret (v := rdV (.bad true 6) (.slice none 0 0)) (by simp [results, Try.results56, asAddr, ldp hp3, ldw hw3]; rfl) rfl ⟨rfl, HF1.out.bel.trans hb3⟩

set_option maxHeartbeats 4000000 in
set_option maxRecDepth 20000 in
theorem rwhole_away (fl : Int) (l : List UInt8) (r : Fm.Rd) (hr : Fm.parse 7 fl 0 l = r) (w : World) : Calls Try.prog 56 #[.agg (frC 7 fl 0 l)] w fun e w' => e = .returned (rdV r (.slice none 0 0)) ∧ Below w.heap.size w w' := by
  by_cases h8 : 8 ≤ l.length
  · obtain ⟨y, hy⟩ : ∃ y, l.take 4 = y := ⟨_, rfl⟩
    obtain ⟨z, hz⟩ : ∃ z, (l.drop 4).take 4 = z := ⟨_, rfl⟩
    obtain ⟨t, ht⟩ : ∃ t, l.drop 8 = t := ⟨_, rfl⟩
    obtain ⟨n, hn⟩ : ∃ n, Fm.num y % 2147483648 = n := ⟨_, rfl⟩
    obtain ⟨c, hc⟩ : ∃ c, Fm.num z = c := ⟨_, rfl⟩
    obtain rfl : r = .ok ⟨t, 0, (c : Int), (n : Int), 0, false, 0, []⟩ := by
      rw [← hr]
      simp [Fm.parse, Fm.mis, Fm.sized, Fm.say, h8, Fm.idn, hy, hz, ht, hn, hc]
    have hc1 := cut_ends l 4
    have hc2 := cut_mid l 4 8
    have hc3 := cut_rest l 8
    rw [hy] at hc1
    rw [show 8 - 4 = 4 from rfl, hz] at hc2
    rw [ht] at hc3
    have HY : Hid (y.length = 4) := hid' (by rw [← hy, List.length_take]; omega)
    have HZ : Hid (z.length ≤ 4) := hid' (by rw [← hz, List.length_take]; omega)
    have HN := hid' hn
    have HCC := hid' hc
    have g8 : ¬ (l.length : Int) < 8 := by omega
    have g8n : ¬ l.length < 8 := by omega
    have l8i : (8 : Int) ≤ (l.length : Int) := by omega
    have l4i : (4 : Int) ≤ (l.length : Int) := by omega
    clear hr hy hz ht hn hc
    go_enter Try.func56, Try.ntmps56
    go_wp2_with (refine wpl_open _ rfl rfl rfl rfl rfl rfl 7 fl 0 l (by kernel_rfl) ?_)
    intro b1 b2 b3 w0 hF
    obtain ⟨c0, c1, c2, c3⟩ := frC_cells hF.a1
    have HF := hid' hF
    clear hF
    obtain ⟨⟨x0, x1, x2, x3, x4, x5, x6, x7⟩, f0, f1, f2, f3, f4, f5, f6, f7⟩ := ptZ_cells HF.out.a2
    obtain ⟨⟨y0, y1, y2⟩, g0, g1, g2⟩ := wgZ_cells HF.out.a3
    have hne : b3 ≠ b2 := HF.out.a3.apart HF.out.a2 (by decide)
    have hne' := Ne.symm hne
    go_wp2_with fail
    go_region_with (first | (go_at_call 76; refine (rid_any y n HY.out HN.out _).mono ?_; rintro e w1 ⟨rfl, hw⟩; subst w1) | (go_at_call 60; refine (rnumber_any z HZ.out _).mono ?_; rintro e w1 ⟨rfl, hw⟩; subst w1; rw [HCC.out]))
    all_goals
      go_wp2
      obtain ⟨hA1, hU1⟩ := st8 HF.out.a2 (.string ⟨t.toArray⟩) (.int .i64 0) (.int .i64 (c : Int)) (.int .i64 (n : Int)) (.int .i64 0) (.bool false) (.int .i64 0) (.slice none 0 0)
      obtain ⟨hA2, hU2⟩ := st3 (hU1.keep HF.out.a3 hne) (.bool false) (.bool false) (.int .i64 0)
      have l1 := ld_parts (hU2.keep hA1 hne').drew
      have l2 := ld_wrong hA2.drew
      exact bodyPost_ret (v := rdV (.ok ⟨t, 0, (c : Int), (n : Int), 0, false, 0, []⟩) (.slice none 0 0)) (by simp [results, Try.results56, asAddr, l1, l2]; rfl) rfl ⟨rfl, ((HF.out.bel.trans (hU1.below HF.out.g2)).trans (hU2.below HF.out.g3)).drew⟩
  · obtain rfl : r = .bad true 6 := by
      rw [← hr]
      simp [Fm.parse, Fm.mis, Fm.sized, h8]
    have g8 : (l.length : Int) < 8 := by omega
    have g8n : l.length < 8 := by omega
    clear hr
    go_enter Try.func56, Try.ntmps56
    go_wp2_with (refine wpl_open _ rfl rfl rfl rfl rfl rfl 7 fl 0 l (by kernel_rfl) ?_)
    intro b1 b2 b3 w0 hF
    obtain ⟨c0, c1, c2, c3⟩ := frC_cells hF.a1
    have HF := hid' hF
    clear hF
    go_wp2_with fail
    refine (rconn_any 6 _).mono ?_
    rintro e w1 ⟨rfl, hb1⟩
    have HF1 := hid' (HF.out.keep hb1)
    clear hb1
    go_wp2_with (refine wpl_st2 _ _ _ _ rfl rfl rfl rfl w.heap.size b2 b3 Fm.none' none 0 0 true true 6 (by kernel_rfl) (by kernel_rfl) (by kernel_rfl) (by kernel_rfl) HF1.out.a2 HF1.out.a3 HF1.out.g2 HF1.out.g3 ?_)
    intro w3 hp3 hw3 hb3
    go_wp2
    exact bodyPost_ret (v := rdV (.bad true 6) (.slice none 0 0)) (by simp [results, Try.results56, asAddr, ldp hp3, ldw hw3]; rfl) rfl ⟨rfl, HF1.out.bel.trans hb3⟩

set_option maxHeartbeats 4000000 in
set_option maxRecDepth 20000 in
theorem rwhole_update (fl : Int) (l : List UInt8) (r : Fm.Rd) (hr : Fm.parse 16 fl 0 l = r) (w : World) : Calls Try.prog 56 #[.agg (frC 16 fl 0 l)] w fun e w' => e = .returned (rdV r (.slice none 0 0)) ∧ Below w.heap.size w w' := by
  by_cases h4 : 4 ≤ l.length
  · obtain ⟨y, hy⟩ : ∃ y, l.take 4 = y := ⟨_, rfl⟩
    obtain ⟨t, ht⟩ : ∃ t, l.drop 4 = t := ⟨_, rfl⟩
    obtain ⟨n, hn⟩ : ∃ n, Fm.num y % 2147483648 = n := ⟨_, rfl⟩
    have hr2 : (if n = 0 then .bad true 1 else .ok ⟨t, 0, 0, (n : Int), 0, false, 0, []⟩) = r := by
      rw [← hr]
      simp [Fm.parse, Fm.mis, Fm.sized, Fm.say, h4, Fm.idn, hy, ht, hn]
    have hc1 := cut_ends l 4
    have hc3 := cut_rest l 4
    rw [hy] at hc1
    rw [ht] at hc3
    have HY : Hid (y.length = 4) := hid' (by rw [← hy, List.length_take]; omega)
    have HN := hid' hn
    have g8 : ¬ (l.length : Int) < 4 := by omega
    have g8n : ¬ l.length < 4 := by omega
    have l4i : (4 : Int) ≤ (l.length : Int) := by omega
    clear hr hy ht hn
    by_cases h0 : n = 0
    · obtain rfl : r = .bad true 1 := by rw [← hr2, if_pos h0]
      subst h0
      clear hr2
      go_enter Try.func56, Try.ntmps56
      go_wp2_with (refine wpl_open _ rfl rfl rfl rfl rfl rfl 16 fl 0 l (by kernel_rfl) ?_)
      intro b1 b2 b3 w0 hF
      obtain ⟨c0, c1, c2, c3⟩ := frC_cells hF.a1
      have HF := hid' hF
      clear hF
      go_wp2_with fail
      refine (rid_any y _ HY.out HN.out _).mono ?_
      rintro e w1 ⟨rfl, hw⟩
      subst w1
      go_wp2_with fail
      refine (rconn_any 1 _).mono ?_
      rintro e w1 ⟨rfl, hb1⟩
      have HF1 := hid' (HF.out.keep hb1)
      clear hb1
      go_wp2_with (refine wpl_st2 _ _ _ _ rfl rfl rfl rfl w.heap.size b2 b3 Fm.none' none 0 0 true true 1 (by kernel_rfl) (by kernel_rfl) (by kernel_rfl) (by kernel_rfl) HF1.out.a2 HF1.out.a3 HF1.out.g2 HF1.out.g3 ?_)
      intro w3 hp3 hw3 hb3
      go_wp2
      exact bodyPost_ret (v := rdV (.bad true 1) (.slice none 0 0)) (by simp [results, Try.results56, asAddr, ldp hp3, ldw hw3]; rfl) rfl ⟨rfl, HF1.out.bel.trans hb3⟩
    · obtain rfl : r = .ok ⟨t, 0, 0, (n : Int), 0, false, 0, []⟩ := by rw [← hr2, if_neg h0]
      have hn0 : ((n : Int) == 0) = false := by simp; omega
      have hn1 : (n == 0) = false := by simp; omega
      clear hr2
      go_enter Try.func56, Try.ntmps56
      go_wp2_with (refine wpl_open _ rfl rfl rfl rfl rfl rfl 16 fl 0 l (by kernel_rfl) ?_)
      intro b1 b2 b3 w0 hF
      obtain ⟨c0, c1, c2, c3⟩ := frC_cells hF.a1
      have HF := hid' hF
      clear hF
      go_wp2_with fail
      refine (rid_any y _ HY.out HN.out _).mono ?_
      rintro e w1 ⟨rfl, hw⟩
      subst w1
      obtain ⟨⟨x0, x1, x2, x3, x4, x5, x6, x7⟩, f0, f1, f2, f3, f4, f5, f6, f7⟩ := ptZ_cells HF.out.a2
      obtain ⟨⟨y0, y1, y2⟩, g0, g1, g2⟩ := wgZ_cells HF.out.a3
      have hne : b3 ≠ b2 := HF.out.a3.apart HF.out.a2 (by decide)
      have hne' := Ne.symm hne
      go_wp2_with fail
      go_region_with (first | (go_at_call 76; refine (rid_any y n HY.out HN.out _).mono ?_; rintro e w1 ⟨rfl, hw⟩; subst w1))
      all_goals
        go_wp2
        obtain ⟨hA1, hU1⟩ := st8 HF.out.a2 (.string ⟨t.toArray⟩) (.int .i64 0) (.int .i64 0) (.int .i64 (n : Int)) (.int .i64 0) (.bool false) (.int .i64 0) (.slice none 0 0)
        obtain ⟨hA2, hU2⟩ := st3 (hU1.keep HF.out.a3 hne) (.bool false) (.bool false) (.int .i64 0)
        have l1 := ld_parts (hU2.keep hA1 hne').drew
        have l2 := ld_wrong hA2.drew
        exact bodyPost_ret (v := rdV (.ok ⟨t, 0, 0, (n : Int), 0, false, 0, []⟩) (.slice none 0 0)) (by simp [results, Try.results56, asAddr, l1, l2]; rfl) rfl ⟨rfl, ((HF.out.bel.trans (hU1.below HF.out.g2)).trans (hU2.below HF.out.g3)).drew⟩
  · obtain rfl : r = .bad true 6 := by
      rw [← hr]
      simp [Fm.parse, Fm.mis, Fm.sized, h4]
    have g8 : (l.length : Int) < 4 := by omega
    have g8n : l.length < 4 := by omega
    clear hr
    go_enter Try.func56, Try.ntmps56
    go_wp2_with (refine wpl_open _ rfl rfl rfl rfl rfl rfl 16 fl 0 l (by kernel_rfl) ?_)
    intro b1 b2 b3 w0 hF
    obtain ⟨c0, c1, c2, c3⟩ := frC_cells hF.a1
    have HF := hid' hF
    clear hF
    go_wp2_with fail
    refine (rconn_any 6 _).mono ?_
    rintro e w1 ⟨rfl, hb1⟩
    have HF1 := hid' (HF.out.keep hb1)
    clear hb1
    go_wp2_with (refine wpl_st2 _ _ _ _ rfl rfl rfl rfl w.heap.size b2 b3 Fm.none' none 0 0 true true 6 (by kernel_rfl) (by kernel_rfl) (by kernel_rfl) (by kernel_rfl) HF1.out.a2 HF1.out.a3 HF1.out.g2 HF1.out.g3 ?_)
    intro w3 hp3 hw3 hb3
    go_wp2
    exact bodyPost_ret (v := rdV (.bad true 6) (.slice none 0 0)) (by simp [results, Try.results56, asAddr, ldp hp3, ldw hw3]; rfl) rfl ⟨rfl, HF1.out.bel.trans hb3⟩

end Go.Proofs.Ythbidfcfkjamdaa
