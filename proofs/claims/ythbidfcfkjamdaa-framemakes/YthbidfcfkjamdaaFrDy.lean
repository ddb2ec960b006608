/-
  ostlerref07.padded: by its contract.
  ostlerref07.padded of DATA: by its contract.
  ostlerref07.padded of DATA with padding: by its contract.
-/
import Derived.Test.YthbidfcfkjamdaaFrDx
import Derived.Test.YthbidfcfkjamdaaFrK
namespace Go.Proofs.Ythbidfcfkjamdaa
open Go.RowKit

set_option maxHeartbeats 4000000 in
set_option maxRecDepth 20000 in
theorem rpadded_st (k fl : Int) (l : List UInt8) (w : World) : Calls Try.prog 53 #[.agg (frC k fl 0 l)] w fun e w' => e = .returned (rdV (.bad true 1) (.slice none 0 0)) ∧ Below w.heap.size w w' := by
  go_enter Try.func53, Try.ntmps53
  go_wp2_with (refine wpl_open _ rfl rfl rfl rfl rfl rfl k fl 0 l (by kernel_rfl) ?_)
  intro b1 b2 b3 w0 hF
  obtain ⟨c0, c1, c2, c3⟩ := frC_cells hF.a1
  have HF := hid' hF
  clear hF
  go_wp2_with (refine wpl_alloc 27 rfl rfl _ zeroParts ?_)
  intro b4 w4 hg4 ha4 hb4
  have HN24 : Hid (b2 ≠ b4) := hid' (by have := HF.out.a2.lt; omega)
  have HG4 : Hid (w.heap.size ≤ b4) := hid' (Nat.le_trans HF.out.bel.size hg4)
  have hA4 : Ar w4 b4 27 ptZ := ha4
  have HA4 := hid' hA4
  have HF4 := hid' (HF.out.keep hb4)
  obtain ⟨c0, c1, c2, c3⟩ := frC_cells HF4.out.a1
  clear hg4 ha4 hb4 HF hA4
  have p4 := ptZ_cells HA4.out
  have p2 := ptZ_cells HF4.out.a2
  have p3 := wgZ_cells HF4.out.a3
  obtain ⟨⟨u0, u1, u2, u3, u4, u5, u6, u7⟩, _⟩ := p4
  have hne : b3 ≠ b2 := HF4.out.a3.apart HF4.out.a2 (by decide)
  have hne' := Ne.symm hne
  clear p2 p3
  go_wp2_with fail
  go_region_with (go_at_call 57; refine (rconn_any 1 _).mono ?_; rintro e wx ⟨rfl, hbx⟩; have hBx : Below w4.heap.size w4 wx := (below_two ((Below.refl _ _).drew) hbx); have q4 := ptZ_cells (HA4.out.keep hBx); obtain ⟨⟨t0, t1, t2, t3, t4, t5, t6, t7⟩, _⟩ := q4; have q2 := ptZ_cells (HF4.out.a2.keep hBx); obtain ⟨⟨x0, x1, x2, x3, x4, x5, x6, x7⟩, f0, f1, f2, f3, f4, f5, f6, f7⟩ := q2; have q3 := wgZ_cells (HF4.out.a3.keep hBx); obtain ⟨⟨y0, y1, y2⟩, g0, g1, g2⟩ := q3; simp only [wgC])
  all_goals
    go_wp2
    obtain ⟨hA1, hU1⟩ := st8 (HF4.out.a2.keep hBx) (.string ⟨#[]⟩) (.int .i64 0) (.int .i64 0) (.int .i64 0) (.int .i64 0) (.bool false) (.int .i64 0) (.slice none 0 0)
    obtain ⟨hA2, hU2⟩ := st3 (hU1.keep (HF4.out.a3.keep hBx) hne) (.bool true) (.bool true) (.int .i64 1)
    have l1 := ld_parts (hU2.keep hA1 hne')
    have l2 := ld_wrong hA2
    exact bodyPost_ret (v := rdV (.bad true 1) (.slice none 0 0)) (by simp [results, Try.results53, asAddr, l1, l2]; rfl) rfl ⟨rfl, ((below_two HF4.out.bel hBx).trans (hU1.below HF4.out.g2)).trans (hU2.below HF4.out.g3)⟩

end Go.Proofs.Ythbidfcfkjamdaa

namespace Go.Proofs.Ythbidfcfkjamdaa
open Go.RowKit

set_option maxHeartbeats 4000000 in
set_option maxRecDepth 20000 in
theorem rpadded_data0 (fl st : Int) (l : List UInt8) (r : Fm.Rd) (hs : st ≠ 0) (h8 : Fm.has fl 8 = false) (hsz : l.length ≤ 140737488355328) (hr : Fm.parse 0 fl st l = r) (w : World) : Calls Try.prog 53 #[.agg (frC 0 fl st l)] w fun e w' => e = .returned (rdV r (.slice none 0 0)) ∧ Below w.heap.size w w' := by
  obtain rfl : r = .ok ⟨l, 0, 0, 0, 0, false, 0, []⟩ := by
    rw [← hr]
    simp [Fm.parse, Fm.mis, Fm.sized, Fm.say, Fm.head, Fm.pads, hs, h8]
  have HFL := hid' (rflag_any 0 fl st l 8 false (by omega) h8)
  have hs1 : (st == 0) = false := by simp [hs]
  have hcut := cut_ends l l.length
  rw [List.take_length] at hcut
  have hlz : ¬ (l.length : Int) < 0 := by omega
  clear hr h8
  go_enter Try.func53, Try.ntmps53
  go_wp2_with (refine wpl_open _ rfl rfl rfl rfl rfl rfl 0 fl st l (by kernel_rfl) ?_)
  intro b1 b2 b3 w0 hF
  obtain ⟨c0, c1, c2, c3⟩ := frC_cells hF.a1
  have HF := hid' hF
  clear hF
  go_wp2_with (refine wpl_alloc 27 rfl rfl _ zeroParts ?_)
  intro b4 w4 hg4 ha4 hb4
  have HN24 : Hid (b2 ≠ b4) := hid' (by have := HF.out.a2.lt; omega)
  have HG4 : Hid (w.heap.size ≤ b4) := hid' (Nat.le_trans HF.out.bel.size hg4)
  have hA4 : Ar w4 b4 27 ptZ := ha4
  have HA4 := hid' hA4
  have HF4 := hid' (HF.out.keep hb4)
  obtain ⟨c0, c1, c2, c3⟩ := frC_cells HF4.out.a1
  clear hg4 ha4 hb4 HF hA4
  go_wp2_with (refine wpl_ldfr _ rfl rfl b1 (by kernel_rfl) _ _ _ _ HF4.out.a1 ?_)
  clear c0 c1 c2 c3
  go_wp2_with fail
  refine (HFL.out _).mono ?_
  rintro e w5 ⟨rfl, hb_w5⟩
  have HF4 := hid' (HF4.out.keep hb_w5)
  have HA4 := hid' (HA4.out.keep hb_w5)
  obtain ⟨c0, c1, c2, c3⟩ := frC_cells HF4.out.a1
  clear hb_w5
  go_upto_region 18 with fail
  obtain ⟨⟨u0, u1, u2, u3, u4, u5, u6, u7⟩, f0, f1, f2, f3, f4, f5, f6, f7⟩ := ptZ_cells HA4.out
  go_upto_region 19 with fail
  have hu6 := upd_setCell w5 b4 0 (.string ⟨l.toArray⟩)
  have HA6 : Hid (Ar (w5.setCell ⟨b4, 0, none⟩ (.string ⟨l.toArray⟩)) b4 27 (ptC ⟨l, 0, 0, 0, 0, false, 0, []⟩ (.slice none 0 0))) := hid' (HA4.out.set 0 _)
  obtain ⟨w6, hw6⟩ : ∃ w6, w5.setCell ⟨b4, 0, none⟩ (.string ⟨l.toArray⟩) = w6 := ⟨_, rfl⟩
  rw [hw6] at hu6 HA6
  try rw [hw6]
  have hA16 := hu6.keep HF4.out.a1 (HF4.out.a1.apart HA4.out (by decide))
  have HA26 := hid' (hu6.keep HF4.out.a2 HN24.out)
  have HA36 := hid' (hu6.keep HF4.out.a3 (HF4.out.a3.apart HA4.out (by decide)))
  have HB6 := hid' (HF4.out.bel.trans (hu6.below HG4.out))
  have HG2 := hid' HF4.out.g2
  have HG3 := hid' HF4.out.g3
  have HA16 := hid' hA16
  obtain ⟨d0, d1, d2, d3⟩ := frC_cells hA16
  clear hw6 hu6 HF4 hA16 c0 c1 c2 c3 u0 u1 u2 u3 u4 u5 u6 u7 f0 f1 f2 f3 f4 f5 f6 f7
  go_wp2_with (refine wpl_ldfr _ rfl rfl b1 (by kernel_rfl) _ _ _ _ HA16.out ?_)
  clear d0 d1 d2 d3
  go_wp2_with fail
  refine (HFL.out _).mono ?_
  rintro e w7 ⟨rfl, hb7⟩
  have HA7 := hid' (HA6.out.keep hb7)
  have HA29 := hid' (HA26.out.keep hb7)
  have HA39 := hid' (HA36.out.keep hb7)
  have HB9 := hid' (HB6.out.trans (hb7.mono HB6.out.size))
  clear hb7
  go_wp2_with (first | refine wpl_ldf _ rfl rfl b4 (by kernel_rfl) _ _ HA7.out ?_ | refine wpl_st2 _ _ _ _ rfl rfl rfl rfl w.heap.size b2 b3 ⟨l, 0, 0, 0, 0, false, 0, []⟩ none 0 0 false false 0 (by kernel_rfl) (by kernel_rfl) (by kernel_rfl) (by kernel_rfl) HA29.out HA39.out HG2.out HG3.out ?_)
  intro w9 hp9 hw9 hb9
  go_wp2
  exact bodyPost_ret (v := rdV (.ok ⟨l, 0, 0, 0, 0, false, 0, []⟩) (.slice none 0 0)) (by simp [results, Try.results53, asAddr, ldp hp9, ldw hw9]; rfl) rfl ⟨rfl, HB9.out.trans hb9⟩

end Go.Proofs.Ythbidfcfkjamdaa

namespace Go.Proofs.Ythbidfcfkjamdaa
open Go.RowKit

set_option maxHeartbeats 4000000 in
set_option maxRecDepth 20000 in
theorem rpadded_data1 (fl st : Int) (l : List UInt8) (r : Fm.Rd) (hs : st ≠ 0) (h8 : Fm.has fl 8 = true) (hsz : l.length ≤ 140737488355328) (hr : Fm.parse 0 fl st l = r) (w : World) : Calls Try.prog 53 #[.agg (frC 0 fl st l)] w fun e w' => e = .returned (rdV r (.slice none 0 0)) ∧ Below w.heap.size w w' := by
  have HFL := hid' (rflag_any 0 fl st l 8 true (by omega) h8)
  have hs1 : (st == 0) = false := by simp [hs]
  have hhd : Fm.head 0 fl = 1 := by unfold Fm.head; simp [h8]
  by_cases hl : l = []
  · subst hl
    obtain rfl : r = .bad true 6 := by
      rw [← hr]
      simp [Fm.parse, Fm.mis, Fm.sized, hs, hhd]
    clear hr h8 hhd hsz
    go_enter Try.func53, Try.ntmps53
    go_wp2_with (refine wpl_open _ rfl rfl rfl rfl rfl rfl 0 fl st [] (by kernel_rfl) ?_)
    intro b1 b2 b3 w0 hF
    obtain ⟨c0, c1, c2, c3⟩ := frC_cells hF.a1
    have HF := hid' hF
    clear hF
    go_wp2_with (refine wpl_alloc 27 rfl rfl _ zeroParts ?_)
    intro b4 w4 hg4 ha4 hb4
    have HN24 : Hid (b2 ≠ b4) := hid' (by have := HF.out.a2.lt; omega)
    have HG4 : Hid (w.heap.size ≤ b4) := hid' (Nat.le_trans HF.out.bel.size hg4)
    have hA4 : Ar w4 b4 27 ptZ := ha4
    have HA4 := hid' hA4
    have HF4 := hid' (HF.out.keep hb4)
    obtain ⟨c0, c1, c2, c3⟩ := frC_cells HF4.out.a1
    clear hg4 ha4 hb4 HF hA4
    go_wp2_with (refine wpl_ldfr _ rfl rfl b1 (by kernel_rfl) _ _ _ _ HF4.out.a1 ?_)
    clear c0 c1 c2 c3
    go_wp2_with fail
    refine (HFL.out _).mono ?_
    rintro e w5 ⟨rfl, hb_w5⟩
    have HF4 := hid' (HF4.out.keep hb_w5)
    have HA4 := hid' (HA4.out.keep hb_w5)
    obtain ⟨c0, c1, c2, c3⟩ := frC_cells HF4.out.a1
    clear hb_w5
    have p4 := ptZ_cells HA4.out
    have p2 := ptZ_cells HF4.out.a2
    have p3 := wgZ_cells HF4.out.a3
    obtain ⟨⟨u0, u1, u2, u3, u4, u5, u6, u7⟩, _⟩ := p4
    have hne : b3 ≠ b2 := HF4.out.a3.apart HF4.out.a2 (by decide)
    have hne' := Ne.symm hne
    clear p2 p3
    go_wp2_with fail
    go_region_with (go_at_call 57; refine (rconn_any 6 _).mono ?_; rintro e wx ⟨rfl, hbx⟩; have hBx : Below w5.heap.size w5 wx := (below_two ((Below.refl _ _).drew) hbx); have q4 := ptZ_cells (HA4.out.keep hBx); obtain ⟨⟨t0, t1, t2, t3, t4, t5, t6, t7⟩, _⟩ := q4; have q2 := ptZ_cells (HF4.out.a2.keep hBx); obtain ⟨⟨x0, x1, x2, x3, x4, x5, x6, x7⟩, f0, f1, f2, f3, f4, f5, f6, f7⟩ := q2; have q3 := wgZ_cells (HF4.out.a3.keep hBx); obtain ⟨⟨y0, y1, y2⟩, g0, g1, g2⟩ := q3; simp only [wgC])
    all_goals
      go_wp2
      obtain ⟨hA1, hU1⟩ := st8 (HF4.out.a2.keep hBx) (.string ⟨#[]⟩) (.int .i64 0) (.int .i64 0) (.int .i64 0) (.int .i64 0) (.bool false) (.int .i64 0) (.slice none 0 0)
      obtain ⟨hA2, hU2⟩ := st3 (hU1.keep (HF4.out.a3.keep hBx) hne) (.bool true) (.bool true) (.int .i64 6)
      have l1 := ld_parts (hU2.keep hA1 hne')
      have l2 := ld_wrong hA2
      exact bodyPost_ret (v := rdV (.bad true 6) (.slice none 0 0)) (by simp [results, Try.results53, asAddr, l1, l2]; rfl) rfl ⟨rfl, ((below_two HF4.out.bel hBx).trans (hU1.below HF4.out.g2)).trans (hU2.below HF4.out.g3)⟩
  have hl0 : 0 < l.length := by cases l with | nil => exact absurd rfl hl | cons a s => simp
  have hi0 : (0 : Int) < (l.length : Int) := by omega
  have h1i : (1 : Int) ≤ (l.length : Int) := by omega
  have hne0 : ((l.length : Int) == 0) = false := by simp; omega
  have hne0n : (l.length == 0) = false := by simp; omega
  have hb0 : 0 < (⟨l.toArray⟩ : ByteArray).size := by show 0 < l.length; omega
  obtain ⟨d, hd⟩ : ∃ d, (⟨l.toArray⟩ : ByteArray)[0] = d := ⟨_, rfl⟩
  have d256 := UInt8.toNat_lt d
  have hwd := wrap_byte d
  obtain ⟨t, ht⟩ : ∃ t, l.drop 1 = t := ⟨_, rfl⟩
  have hcr := cut_rest l 1
  rw [ht] at hcr
  have htl : t.length = l.length - 1 := by rw [← ht, List.length_drop]
  have hpd : Fm.pads fl l = d.toNat := by
    unfold Fm.pads
    rw [h8, if_pos rfl]
    cases l with
    | nil => exact absurd rfl hl
    | cons a s =>
      have e0 : a = d := hd
      subst e0
      rfl
  obtain ⟨q, hq⟩ : ∃ q, d.toNat = q := ⟨_, rfl⟩
  have hr2 : (if t.length < q then .bad true 1 else .ok ⟨t.take (t.length - q), (q : Int) + 1, 0, 0, 0, false, 0, []⟩) = r := by
    rw [← hr]
    have e1 : l.length - 1 = t.length := htl.symm
    simp [Fm.parse, Fm.mis, Fm.sized, Fm.say, hs, hhd, hpd, hq, h8, ht, e1]
    intro hlt
    exact absurd hlt (by omega)
  rw [hq] at hwd d256
  have HD : Hid (d.toNat = q) := hid' hq
  have htb : t.length ≤ 140737488355328 := by omega
  clear hr h8 hhd hpd ht htl hl hsz
  by_cases hlt : t.length < q
  · obtain rfl : r = .bad true 1 := by rw [← hr2, if_pos hlt]
    have hlti : (t.length : Int) < (q : Int) := by omega
    clear hr2
    go_enter Try.func53, Try.ntmps53
    go_wp2_with (refine wpl_open _ rfl rfl rfl rfl rfl rfl 0 fl st l (by kernel_rfl) ?_)
    intro b1 b2 b3 w0 hF
    obtain ⟨c0, c1, c2, c3⟩ := frC_cells hF.a1
    have HF := hid' hF
    clear hF
    go_wp2_with (refine wpl_alloc 27 rfl rfl _ zeroParts ?_)
    intro b4 w4 hg4 ha4 hb4
    have HN24 : Hid (b2 ≠ b4) := hid' (by have := HF.out.a2.lt; omega)
    have HG4 : Hid (w.heap.size ≤ b4) := hid' (Nat.le_trans HF.out.bel.size hg4)
    have hA4 : Ar w4 b4 27 ptZ := ha4
    have HA4 := hid' hA4
    have HF4 := hid' (HF.out.keep hb4)
    obtain ⟨c0, c1, c2, c3⟩ := frC_cells HF4.out.a1
    clear hg4 ha4 hb4 HF hA4
    go_wp2_with (refine wpl_ldfr _ rfl rfl b1 (by kernel_rfl) _ _ _ _ HF4.out.a1 ?_)
    clear c0 c1 c2 c3
    go_wp2_with fail
    refine (HFL.out _).mono ?_
    rintro e w5 ⟨rfl, hb_w5⟩
    have HF4 := hid' (HF4.out.keep hb_w5)
    have HA4 := hid' (HA4.out.keep hb_w5)
    obtain ⟨c0, c1, c2, c3⟩ := frC_cells HF4.out.a1
    clear hb_w5
    go_wp2_with fail
    refine (rconn_any 1 _).mono ?_
    rintro e w1 ⟨rfl, hb1⟩
    have HF1 := hid' (HF4.out.keep hb1)
    clear hb1
    go_wp2_with (refine wpl_st2 _ _ _ _ rfl rfl rfl rfl w.heap.size b2 b3 Fm.none' none 0 0 true true 1 (by kernel_rfl) (by kernel_rfl) (by kernel_rfl) (by kernel_rfl) HF1.out.a2 HF1.out.a3 HF1.out.g2 HF1.out.g3 ?_)
    intro w3 hp3 hw3 hb3
    go_wp2
    exact bodyPost_ret (v := rdV (.bad true 1) (.slice none 0 0)) (by simp [results, Try.results53, asAddr, ldp hp3, ldw hw3]; rfl) rfl ⟨rfl, HF1.out.bel.trans hb3⟩
  · obtain ⟨m, hm⟩ : ∃ m, t.length - q = m := ⟨_, rfl⟩
    obtain ⟨x, hx⟩ : ∃ x, t.take m = x := ⟨_, rfl⟩
    obtain rfl : r = .ok ⟨x, (q : Int) + 1, 0, 0, 0, false, 0, []⟩ := by rw [← hr2, if_neg hlt, hm, hx]
    have hlti : ¬ (t.length : Int) < (q : Int) := by omega
    have hmi : (t.length : Int) - (q : Int) = (m : Int) := by omega
    have hml : (m : Int) ≤ (t.length : Int) := by omega
    have hmn : m ≤ t.length := by omega
    have hct := cut_ends t m
    rw [hx] at hct
    clear hr2 hm hx
    go_enter Try.func53, Try.ntmps53
    go_wp2_with (refine wpl_open _ rfl rfl rfl rfl rfl rfl 0 fl st l (by kernel_rfl) ?_)
    intro b1 b2 b3 w0 hF
    obtain ⟨c0, c1, c2, c3⟩ := frC_cells hF.a1
    have HF := hid' hF
    clear hF
    go_wp2_with (refine wpl_alloc 27 rfl rfl _ zeroParts ?_)
    intro b4 w4 hg4 ha4 hb4
    have HN24 : Hid (b2 ≠ b4) := hid' (by have := HF.out.a2.lt; omega)
    have HG4 : Hid (w.heap.size ≤ b4) := hid' (Nat.le_trans HF.out.bel.size hg4)
    have hA4 : Ar w4 b4 27 ptZ := ha4
    have HA4 := hid' hA4
    have HF4 := hid' (HF.out.keep hb4)
    obtain ⟨c0, c1, c2, c3⟩ := frC_cells HF4.out.a1
    clear hg4 ha4 hb4 HF hA4
    go_wp2_with (refine wpl_ldfr _ rfl rfl b1 (by kernel_rfl) _ _ _ _ HF4.out.a1 ?_)
    clear c0 c1 c2 c3
    go_wp2_with fail
    refine (HFL.out _).mono ?_
    rintro e w5 ⟨rfl, hb_w5⟩
    have HF4 := hid' (HF4.out.keep hb_w5)
    have HA4 := hid' (HA4.out.keep hb_w5)
    obtain ⟨c0, c1, c2, c3⟩ := frC_cells HF4.out.a1
    clear hb_w5
    go_upto_region 18 with fail
    obtain ⟨⟨u0, u1, u2, u3, u4, u5, u6, u7⟩, f0, f1, f2, f3, f4, f5, f6, f7⟩ := ptZ_cells HA4.out
    go_upto_region 19 with fail
    have hu6 := upd_setCell w5 b4 0 (.string ⟨x.toArray⟩)
    have HA6 : Hid (Ar (w5.setCell ⟨b4, 0, none⟩ (.string ⟨x.toArray⟩)) b4 27 (ptC ⟨x, 0, 0, 0, 0, false, 0, []⟩ (.slice none 0 0))) := hid' (HA4.out.set 0 _)
    obtain ⟨w6, hw6⟩ : ∃ w6, w5.setCell ⟨b4, 0, none⟩ (.string ⟨x.toArray⟩) = w6 := ⟨_, rfl⟩
    rw [hw6] at hu6 HA6
    try rw [hw6]
    have hA16 := hu6.keep HF4.out.a1 (HF4.out.a1.apart HA4.out (by decide))
    have HA26 := hid' (hu6.keep HF4.out.a2 HN24.out)
    have HA36 := hid' (hu6.keep HF4.out.a3 (HF4.out.a3.apart HA4.out (by decide)))
    have HB6 := hid' (HF4.out.bel.trans (hu6.below HG4.out))
    have HG2 := hid' HF4.out.g2
    have HG3 := hid' HF4.out.g3
    have HA16 := hid' hA16
    obtain ⟨d0, d1, d2, d3⟩ := frC_cells hA16
    clear hw6 hu6 HF4 hA16 c0 c1 c2 c3 u0 u1 u2 u3 u4 u5 u6 u7 f0 f1 f2 f3 f4 f5 f6 f7
    go_wp2_with (refine wpl_ldfr _ rfl rfl b1 (by kernel_rfl) _ _ _ _ HA16.out ?_)
    clear d0 d1 d2 d3
    go_wp2_with fail
    refine (HFL.out _).mono ?_
    rintro e w7 ⟨rfl, hb7⟩
    have hA7 := HA6.out.keep hb7
    have v1 := hA7.cell 1 _ rfl
    have fr1 := hA7.free 1
    have HA7 := hid' hA7
    have HA27 := hid' (HA26.out.keep hb7)
    have HA37 := hid' (HA36.out.keep hb7)
    have HB7 := hid' (HB6.out.trans (hb7.mono HB6.out.size))
    clear hb7 hA7
    go_upto_region 21 with fail
    have hu8 := upd_setCell w7 b4 1 (.int .i64 ((q : Int) + 1))
    have HA8 : Hid (Ar (w7.setCell ⟨b4, 1, none⟩ (.int .i64 ((q : Int) + 1))) b4 27 (ptC ⟨x, (q : Int) + 1, 0, 0, 0, false, 0, []⟩ (.slice none 0 0))) := hid' (HA7.out.set 1 _)
    obtain ⟨w8, hw8⟩ : ∃ w8, w7.setCell ⟨b4, 1, none⟩ (.int .i64 ((q : Int) + 1)) = w8 := ⟨_, rfl⟩
    rw [hw8] at hu8 HA8
    try rw [hw8]
    have HA29 := hid' (hu8.keep HA27.out HN24.out)
    have HA39 := hid' (hu8.keep HA37.out (HA37.out.apart HA7.out (by decide)))
    have HB9 := hid' (HB7.out.trans (hu8.below HG4.out))
    clear hw8 hu8 v1 fr1
    go_wp2_with (first | refine wpl_ldf _ rfl rfl b4 (by kernel_rfl) _ _ HA8.out ?_ | refine wpl_st2 _ _ _ _ rfl rfl rfl rfl w.heap.size b2 b3 ⟨x, (q : Int) + 1, 0, 0, 0, false, 0, []⟩ none 0 0 false false 0 (by kernel_rfl) (by kernel_rfl) (by kernel_rfl) (by kernel_rfl) HA29.out HA39.out HG2.out HG3.out ?_)
    intro w9 hp9 hw9 hb9
    go_wp2
    exact bodyPost_ret (v := rdV (.ok ⟨x, (q : Int) + 1, 0, 0, 0, false, 0, []⟩) (.slice none 0 0)) (by simp [results, Try.results53, asAddr, ldp hp9, ldw hw9]; rfl) rfl ⟨rfl, HB9.out.trans hb9⟩

end Go.Proofs.Ythbidfcfkjamdaa
