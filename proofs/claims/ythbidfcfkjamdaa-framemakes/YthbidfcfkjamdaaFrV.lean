/-
  frame.ofHeaders, by its contract.
-/
import Derived.Test.YthbidfcfkjamdaaFrUc
namespace Go.Proofs.Ythbidfcfkjamdaa
open Go.RowKit

theorem prio_data (y d : List UInt8) {w : World} {b : Nat} (h : Ar w b 27 (ptC (Fm.prio y []) (.slice none 0 0))) : Ar (w.setCell ⟨b, 0, none⟩ (.string ⟨d.toArray⟩)) b 27 (ptC (Fm.prio y d) (.slice none 0 0)) := by
  have := h.set 0 (.string ⟨d.toArray⟩)
  simpa [ptC, Fm.prio] using this
theorem none_data (d : List UInt8) {w : World} {b : Nat} (h : Ar w b 27 (ptC Fm.none' (.slice none 0 0))) : Ar (w.setCell ⟨b, 0, none⟩ (.string ⟨d.toArray⟩)) b 27 (ptC ⟨d, 0, 0, 0, 0, false, 0, []⟩ (.slice none 0 0)) := by
  have := h.set 0 (.string ⟨d.toArray⟩)
  simpa [ptC, Fm.none'] using this

set_option maxHeartbeats 4000000 in
set_option maxRecDepth 20000 in
theorem cofHead_bad (fl st : Int) (l d : List UInt8) (n q : Nat) (hn : Fm.head 1 fl = n) (hq : Fm.pads fl l = q) (hd : (l.drop n).take (l.length - n - q) = d) (hl : n ≤ l.length) (hsz : l.length ≤ 140737488355328) (hlt :  l.length - n < q) (w : World) :
    Calls Try.prog 68 #[.agg (frC 1 fl st l)] w fun e w' => e = .returned (rdV (.bad true 1) (.slice none 0 0)) ∧ Below w.heap.size w w' := by
  have HU := hid' (fun (w : World) => cunpad_any 1 fl st l n q d hn hq hl hd hsz w)
  rw [if_pos hlt] at HU
  clear hlt hn hq hd
  go_enter Try.func68, Try.ntmps68
  go_wp2_with (refine wpl_open _ rfl rfl rfl rfl rfl rfl 1 fl st l (by kernel_rfl) ?_)
  intro b1 b2 b3 w0 hF
  obtain ⟨c0, c1, c2, c3⟩ := frC_cells hF.a1
  have HF := hid' hF
  clear hF
  go_wp2_with fail
  refine (HU.out _).mono ?_
  rintro e w1 ⟨rfl, hb1⟩
  have HF1 := hid' (HF.out.keep hb1)
  clear hb1
  go_wp2_with fail
  refine (cofConn_any 1 _).mono ?_
  rintro e w2 ⟨rfl, hb2⟩
  have HF2 := hid' (HF1.out.keep hb2)
  clear hb2
  go_wp2_with (refine wpl_st2 _ _ _ _ rfl rfl rfl rfl w.heap.size b2 b3 Fm.none' none 0 0 true true 1 (by kernel_rfl) (by kernel_rfl) (by kernel_rfl) (by kernel_rfl) HF2.out.a2 HF2.out.a3 HF2.out.g2 HF2.out.g3 ?_)
  intro w3 hp3 hw3 hb3
  go_wp2
  exact bodyPost_ret (v := rdV (.bad true 1) (.slice none 0 0)) (by simp [results, Try.results68, asAddr, ldp hp3, ldw hw3]; rfl) rfl ⟨rfl, HF2.out.bel.trans hb3⟩

set_option maxHeartbeats 4000000 in
set_option maxRecDepth 20000 in
theorem cofHead_plain (fl st : Int) (l d : List UInt8) (n q : Nat) (hn : Fm.head 1 fl = n) (hq : Fm.pads fl l = q) (hd : (l.drop n).take (l.length - n - q) = d) (hl : n ≤ l.length) (hsz : l.length ≤ 140737488355328) (hlt : ¬ l.length - n < q) (h5 : Fm.has fl 32 = false) (w : World) :
    Calls Try.prog 68 #[.agg (frC 1 fl st l)] w fun e w' => e = .returned (rdV (.ok ⟨d, 0, 0, 0, 0, false, 0, []⟩) (.slice none 0 0)) ∧ Below w.heap.size w w' := by
  have H5 := hid' h5
  clear h5
  have HU := hid' (fun (w : World) => cunpad_any 1 fl st l n q d hn hq hl hd hsz w)
  rw [if_neg hlt] at HU
  clear hlt hn hq hd
  go_enter Try.func68, Try.ntmps68
  go_wp2_with (refine wpl_open _ rfl rfl rfl rfl rfl rfl 1 fl st l (by kernel_rfl) ?_)
  intro b1 b2 b3 w0 hF
  obtain ⟨c0, c1, c2, c3⟩ := frC_cells hF.a1
  have HF := hid' hF
  clear hF
  go_wp2_with fail
  refine (HU.out _).mono ?_
  rintro e w1 ⟨rfl, hb1⟩
  have HF1 := hid' (HF.out.keep hb1)
  clear hb1
  go_wp2_with (refine wpl_alloc 27 rfl rfl _ zeroParts ?_)
  intro b4 w4 hg4 ha4 hb4
  refine wpl_stp _ _ rfl rfl b4 Fm.none' none 0 0 (by kernel_rfl) (by kernel_rfl) _ ha4 rfl ?_
  intro w5 ha5 hu5
  have hb5 := hb4.trans (hu5.below hg4)
  have hF5 := HF1.out.keep hb5
  obtain ⟨d0, d1, d2, d3⟩ := frC_cells hF5.a1
  have HG := hid' (Nat.le_trans HF1.out.bel.size hg4)
  have HF5 := hid' hF5
  have HA5 := hid' ha5
  have HN1 := hid' (show b1 ≠ b4 by have := HF1.out.a1.lt; omega)
  have HN2 := hid' (show b2 ≠ b4 by have := HF1.out.a2.lt; omega)
  have HN3 := hid' (show b3 ≠ b4 by have := HF1.out.a3.lt; omega)
  clear ha4 hb4 ha5 hu5 hb5 hF5 c0 c1 c2 c3
  go_wp2_with fail
  refine (chas_any 1 fl st l 32 false (by decide) H5.out _).mono ?_
  rintro e w6 ⟨rfl, hb6⟩
  have hA6 := HA5.out.keep hb6
  have hF6 := HF5.out.keep hb6
  clear hb6
  have x0 := hA6.cell 0 _ rfl
  have f0 := hA6.free 0
  have HA6 := hid' hA6
  have HF6 := hid' hF6
  clear hA6 hF6
  go_upto_region 8 with fail
  have hA9 := none_data d HA6.out
  have hU9 := upd_setCell w6 b4 0 (.string ⟨d.toArray⟩)
  have hF9 := HF6.out.upd hU9 HG.out HN1.out HN2.out HN3.out
  have HF9 := hid' hF9
  have HA9 := hid' hA9
  clear x0 f0 hA9 hU9 hF9
  generalize w6.setCell ⟨b4, 0, none⟩ (.string ⟨d.toArray⟩) = w9 at *
  go_wp2_with (first | refine wpl_ldf _ rfl rfl b4 (by kernel_rfl) _ _ HA9.out ?_ | refine wpl_st2 _ _ _ _ rfl rfl rfl rfl w.heap.size b2 b3 ⟨d, 0, 0, 0, 0, false, 0, []⟩ none 0 0 false false 0 (by kernel_rfl) (by kernel_rfl) (by kernel_rfl) (by kernel_rfl) HF9.out.a2 HF9.out.a3 HF9.out.g2 HF9.out.g3 ?_)
  intro w10 hp10 hw10 hb10
  go_wp2
  exact bodyPost_ret (v := rdV (.ok ⟨d, 0, 0, 0, 0, false, 0, []⟩) (.slice none 0 0)) (by simp [results, Try.results68, asAddr, ldp hp10, ldw hw10]; rfl) rfl ⟨rfl, HF9.out.bel.trans hb10⟩

set_option maxHeartbeats 4000000 in
set_option maxRecDepth 20000 in
theorem cofHead_prio0 (fl st : Int) (l y d : List UInt8) (q : Nat) (hn : Fm.head 1 fl = 5) (hq : Fm.pads fl l = q) (hd : (l.drop 5).take (l.length - 5 - q) = d) (hl : 5 ≤ l.length) (hsz : l.length ≤ 140737488355328) (hlt : ¬ l.length - 5 < q) (h5 : Fm.has fl 32 = true) (hy : l.drop 0 = y) (w : World) :
    Calls Try.prog 68 #[.agg (frC 1 fl st l)] w fun e w' => e = .returned (rdV (.ok (Fm.prio y d)) (.slice none 0 0)) ∧ Below w.heap.size w w' := by
  have H5 := hid' h5
  have hcut : (⟨l.toArray⟩ : ByteArray).extract 0 l.length = ⟨y.toArray⟩ := by rw [cut_rest, hy]
  have hy5 : 5 ≤ y.length := by rw [← hy, List.length_drop]; omega
  have HH : Hid (∀ w : World, Calls Try.prog 78 #[.agg (frC 1 fl st l)] w fun e w' => e = .returned (.int .i64 5) ∧ Below w.heap.size w w') := hid' (fun (w : World) => chead_any 1 fl st l 5 hn w)
  have hwr : IntKind.i64.wrap 0 = 0 := by decide
  have hwr2 : IntKind.i64.wrap (5 - 5) = 0 := by decide
  have hml : (0 : Int) ≤ (l.length : Int) := by omega
  obtain ⟨pi, hpi⟩ : ∃ pi, (Fm.prio y []).last = pi := ⟨_, rfl⟩
  obtain ⟨pw, hpw⟩ : ∃ pw, (Fm.prio y []).weight = pw := ⟨_, rfl⟩
  obtain ⟨po, hpo⟩ : ∃ po, (Fm.prio y []).only = po := ⟨_, rfl⟩
  have HPR : Hid (ptC (Fm.prio y []) (.slice none 0 0) = #[.string ⟨#[]⟩, .int .i64 0, .int .i64 0, .int .i64 pi, .int .i64 pw, .bool po, .int .i64 0, .slice none 0 0]) := hid' (by rw [← hpi, ← hpw, ← hpo]; rfl)
  have HP := hid' (fun (w : World) => cofPrio_any y hy5 w)
  rw [HPR.out] at HP
  clear h5 hy hpi hpw hpo
  have HU := hid' (fun (w : World) => cunpad_any 1 fl st l 5 q d hn hq hl hd hsz w)
  rw [if_neg hlt] at HU
  clear hlt hn hq hd
  go_enter Try.func68, Try.ntmps68
  go_wp2_with (refine wpl_open _ rfl rfl rfl rfl rfl rfl 1 fl st l (by kernel_rfl) ?_)
  intro b1 b2 b3 w0 hF
  obtain ⟨c0, c1, c2, c3⟩ := frC_cells hF.a1
  have HF := hid' hF
  clear hF
  go_wp2_with fail
  refine (HU.out _).mono ?_
  rintro e w1 ⟨rfl, hb1⟩
  have HF1 := hid' (HF.out.keep hb1)
  clear hb1
  go_wp2_with (refine wpl_alloc 27 rfl rfl _ zeroParts ?_)
  intro b4 w4 hg4 ha4 hb4
  refine wpl_stp _ _ rfl rfl b4 Fm.none' none 0 0 (by kernel_rfl) (by kernel_rfl) _ ha4 rfl ?_
  intro w5 ha5 hu5
  have hb5 := hb4.trans (hu5.below hg4)
  have hF5 := HF1.out.keep hb5
  obtain ⟨d0, d1, d2, d3⟩ := frC_cells hF5.a1
  have HG := hid' (Nat.le_trans HF1.out.bel.size hg4)
  have HF5 := hid' hF5
  have HA5 := hid' ha5
  have HN1 := hid' (show b1 ≠ b4 by have := HF1.out.a1.lt; omega)
  have HN2 := hid' (show b2 ≠ b4 by have := HF1.out.a2.lt; omega)
  have HN3 := hid' (show b3 ≠ b4 by have := HF1.out.a3.lt; omega)
  clear ha4 hb4 ha5 hu5 hb5 hF5 c0 c1 c2 c3
  go_wp2_with fail
  refine (chas_any 1 fl st l 32 true (by decide) H5.out _).mono ?_
  rintro e w6 ⟨rfl, hb6⟩
  have hA6 := HA5.out.keep hb6
  have hF6 := HF5.out.keep hb6
  clear hb6
  obtain ⟨⟨x0, x1, x2, x3, x4, x5, x6, x7⟩, f0, f1, f2, f3, f4, f5, f6, f7⟩ := ptZ_cells hA6
  obtain ⟨d0', d1', d2', d3'⟩ := frC_cells hF6.a1
  have kOf : ∀ W W1 : World, (FB w W b1 b2 b3 1 fl st l ∧ Ar W b4 27 ptZ) → Below W.heap.size W W1 → (FB w W1 b1 b2 b3 1 fl st l ∧ Ar W1 b4 27 ptZ) := fun W W1 h hb => ⟨h.1.keep hb, h.2.keep hb⟩
  have HS6 : Hid (FB w w6.drew b1 b2 b3 1 fl st l ∧ Ar w6.drew b4 27 ptZ) := hid' (kOf _ _ ⟨hF6, hA6⟩ ((Below.refl _ _).drew))
  have KO := hid' kOf
  clear hA6 hF6 kOf
  go_wp2_with fail
  go_region_with (first
    | (go_at_call 78; refine (HH.out _).mono ?_; rintro e w7 ⟨rfl, hb7⟩; have hK7 := KO.out _ _ HS6.out hb7; obtain ⟨⟨y0, y1, y2, y3, y4, y5, y6, y7⟩, g0, g1, g2, g3, g4, g5, g6, g7⟩ := ptZ_cells hK7.2; obtain ⟨z0, z1, z2, z3⟩ := frC_cells hK7.1.a1; have HK7 := hid' hK7; clear hK7 hb7)
    | (go_at_call 69; refine (HP.out _).mono ?_; rintro e w8 ⟨rfl, hb8⟩; have hK8 := KO.out _ _ HK7.out hb8; obtain ⟨⟨y0', y1', y2', y3', y4', y5', y6', y7'⟩, g0', g1', g2', g3', g4', g5', g6', g7'⟩ := ptZ_cells hK8.2; have HK8 := hid' hK8; clear hK8 hb8))
  all_goals go_upto_region 8 with fail
  all_goals
    obtain ⟨hA8, hU8⟩ := st8 HK8.out.2 (.string ⟨#[]⟩) (.int .i64 0) (.int .i64 0) (.int .i64 pi) (.int .i64 pw) (.bool po) (.int .i64 0) (.slice none 0 0)
    rw [← HPR.out] at hA8
    have hF8 := HK8.out.1.upd hU8 HG.out HN1.out HN2.out HN3.out
    clear hU8
    generalize ((((((((w8.setCell ⟨b4, 0, none⟩ (.string ⟨#[]⟩)).setCell ⟨b4, 1, none⟩ (.int .i64 0)).setCell ⟨b4, 2, none⟩ (.int .i64 0)).setCell ⟨b4, 3, none⟩ (.int .i64 pi)).setCell ⟨b4, 4, none⟩ (.int .i64 pw)).setCell ⟨b4, 5, none⟩ (.bool po)).setCell ⟨b4, 6, none⟩ (.int .i64 0)).setCell ⟨b4, 7, none⟩ (.slice none 0 0)) = wx at *
    have hA9 := prio_data y d hA8
    have hU9 := upd_setCell wx b4 0 (.string ⟨d.toArray⟩)
    have hF9 := hF8.upd hU9 HG.out HN1.out HN2.out HN3.out
    have HF9 := hid' hF9
    have HA9 := hid' hA9
    clear hA8 hF8 hA9 hU9 hF9
    generalize wx.setCell ⟨b4, 0, none⟩ (.string ⟨d.toArray⟩) = w9 at *
    go_wp2_with (first | refine wpl_ldf _ rfl rfl b4 (by kernel_rfl) _ _ HA9.out ?_ | refine wpl_st2 _ _ _ _ rfl rfl rfl rfl w.heap.size b2 b3 (Fm.prio y d) none 0 0 false false 0 (by kernel_rfl) (by kernel_rfl) (by kernel_rfl) (by kernel_rfl) HF9.out.a2 HF9.out.a3 HF9.out.g2 HF9.out.g3 ?_)
    intro w10 hp10 hw10 hb10
    go_wp2
    exact bodyPost_ret (v := rdV (.ok (Fm.prio y d)) (.slice none 0 0)) (by simp [results, Try.results68, asAddr, ldp hp10, ldw hw10]; rfl) rfl ⟨rfl, HF9.out.bel.trans hb10⟩

set_option maxHeartbeats 4000000 in
set_option maxRecDepth 20000 in
theorem cofHead_prio1 (fl st : Int) (l y d : List UInt8) (q : Nat) (hn : Fm.head 1 fl = 6) (hq : Fm.pads fl l = q) (hd : (l.drop 6).take (l.length - 6 - q) = d) (hl : 6 ≤ l.length) (hsz : l.length ≤ 140737488355328) (hlt : ¬ l.length - 6 < q) (h5 : Fm.has fl 32 = true) (hy : l.drop 1 = y) (w : World) :
    Calls Try.prog 68 #[.agg (frC 1 fl st l)] w fun e w' => e = .returned (rdV (.ok (Fm.prio y d)) (.slice none 0 0)) ∧ Below w.heap.size w w' := by
  have H5 := hid' h5
  have hcut : (⟨l.toArray⟩ : ByteArray).extract 1 l.length = ⟨y.toArray⟩ := by rw [cut_rest, hy]
  have hy5 : 5 ≤ y.length := by rw [← hy, List.length_drop]; omega
  have HH : Hid (∀ w : World, Calls Try.prog 78 #[.agg (frC 1 fl st l)] w fun e w' => e = .returned (.int .i64 6) ∧ Below w.heap.size w w') := hid' (fun (w : World) => chead_any 1 fl st l 6 hn w)
  have hwr : IntKind.i64.wrap 1 = 1 := by decide
  have hwr2 : IntKind.i64.wrap (6 - 5) = 1 := by decide
  have hml : (1 : Int) ≤ (l.length : Int) := by omega
  obtain ⟨pi, hpi⟩ : ∃ pi, (Fm.prio y []).last = pi := ⟨_, rfl⟩
  obtain ⟨pw, hpw⟩ : ∃ pw, (Fm.prio y []).weight = pw := ⟨_, rfl⟩
  obtain ⟨po, hpo⟩ : ∃ po, (Fm.prio y []).only = po := ⟨_, rfl⟩
  have HPR : Hid (ptC (Fm.prio y []) (.slice none 0 0) = #[.string ⟨#[]⟩, .int .i64 0, .int .i64 0, .int .i64 pi, .int .i64 pw, .bool po, .int .i64 0, .slice none 0 0]) := hid' (by rw [← hpi, ← hpw, ← hpo]; rfl)
  have HP := hid' (fun (w : World) => cofPrio_any y hy5 w)
  rw [HPR.out] at HP
  clear h5 hy hpi hpw hpo
  have HU := hid' (fun (w : World) => cunpad_any 1 fl st l 6 q d hn hq hl hd hsz w)
  rw [if_neg hlt] at HU
  clear hlt hn hq hd
  go_enter Try.func68, Try.ntmps68
  go_wp2_with (refine wpl_open _ rfl rfl rfl rfl rfl rfl 1 fl st l (by kernel_rfl) ?_)
  intro b1 b2 b3 w0 hF
  obtain ⟨c0, c1, c2, c3⟩ := frC_cells hF.a1
  have HF := hid' hF
  clear hF
  go_wp2_with fail
  refine (HU.out _).mono ?_
  rintro e w1 ⟨rfl, hb1⟩
  have HF1 := hid' (HF.out.keep hb1)
  clear hb1
  go_wp2_with (refine wpl_alloc 27 rfl rfl _ zeroParts ?_)
  intro b4 w4 hg4 ha4 hb4
  refine wpl_stp _ _ rfl rfl b4 Fm.none' none 0 0 (by kernel_rfl) (by kernel_rfl) _ ha4 rfl ?_
  intro w5 ha5 hu5
  have hb5 := hb4.trans (hu5.below hg4)
  have hF5 := HF1.out.keep hb5
  obtain ⟨d0, d1, d2, d3⟩ := frC_cells hF5.a1
  have HG := hid' (Nat.le_trans HF1.out.bel.size hg4)
  have HF5 := hid' hF5
  have HA5 := hid' ha5
  have HN1 := hid' (show b1 ≠ b4 by have := HF1.out.a1.lt; omega)
  have HN2 := hid' (show b2 ≠ b4 by have := HF1.out.a2.lt; omega)
  have HN3 := hid' (show b3 ≠ b4 by have := HF1.out.a3.lt; omega)
  clear ha4 hb4 ha5 hu5 hb5 hF5 c0 c1 c2 c3
  go_wp2_with fail
  refine (chas_any 1 fl st l 32 true (by decide) H5.out _).mono ?_
  rintro e w6 ⟨rfl, hb6⟩
  have hA6 := HA5.out.keep hb6
  have hF6 := HF5.out.keep hb6
  clear hb6
  obtain ⟨⟨x0, x1, x2, x3, x4, x5, x6, x7⟩, f0, f1, f2, f3, f4, f5, f6, f7⟩ := ptZ_cells hA6
  obtain ⟨d0', d1', d2', d3'⟩ := frC_cells hF6.a1
  have kOf : ∀ W W1 : World, (FB w W b1 b2 b3 1 fl st l ∧ Ar W b4 27 ptZ) → Below W.heap.size W W1 → (FB w W1 b1 b2 b3 1 fl st l ∧ Ar W1 b4 27 ptZ) := fun W W1 h hb => ⟨h.1.keep hb, h.2.keep hb⟩
  have HS6 : Hid (FB w w6.drew b1 b2 b3 1 fl st l ∧ Ar w6.drew b4 27 ptZ) := hid' (kOf _ _ ⟨hF6, hA6⟩ ((Below.refl _ _).drew))
  have KO := hid' kOf
  clear hA6 hF6 kOf
  go_wp2_with fail
  go_region_with (first
    | (go_at_call 78; refine (HH.out _).mono ?_; rintro e w7 ⟨rfl, hb7⟩; have hK7 := KO.out _ _ HS6.out hb7; obtain ⟨⟨y0, y1, y2, y3, y4, y5, y6, y7⟩, g0, g1, g2, g3, g4, g5, g6, g7⟩ := ptZ_cells hK7.2; obtain ⟨z0, z1, z2, z3⟩ := frC_cells hK7.1.a1; have HK7 := hid' hK7; clear hK7 hb7)
    | (go_at_call 69; refine (HP.out _).mono ?_; rintro e w8 ⟨rfl, hb8⟩; have hK8 := KO.out _ _ HK7.out hb8; obtain ⟨⟨y0', y1', y2', y3', y4', y5', y6', y7'⟩, g0', g1', g2', g3', g4', g5', g6', g7'⟩ := ptZ_cells hK8.2; have HK8 := hid' hK8; clear hK8 hb8))
  all_goals go_upto_region 8 with fail
  all_goals
    obtain ⟨hA8, hU8⟩ := st8 HK8.out.2 (.string ⟨#[]⟩) (.int .i64 0) (.int .i64 0) (.int .i64 pi) (.int .i64 pw) (.bool po) (.int .i64 0) (.slice none 0 0)
    rw [← HPR.out] at hA8
    have hF8 := HK8.out.1.upd hU8 HG.out HN1.out HN2.out HN3.out
    clear hU8
    generalize ((((((((w8.setCell ⟨b4, 0, none⟩ (.string ⟨#[]⟩)).setCell ⟨b4, 1, none⟩ (.int .i64 0)).setCell ⟨b4, 2, none⟩ (.int .i64 0)).setCell ⟨b4, 3, none⟩ (.int .i64 pi)).setCell ⟨b4, 4, none⟩ (.int .i64 pw)).setCell ⟨b4, 5, none⟩ (.bool po)).setCell ⟨b4, 6, none⟩ (.int .i64 0)).setCell ⟨b4, 7, none⟩ (.slice none 0 0)) = wx at *
    have hA9 := prio_data y d hA8
    have hU9 := upd_setCell wx b4 0 (.string ⟨d.toArray⟩)
    have hF9 := hF8.upd hU9 HG.out HN1.out HN2.out HN3.out
    have HF9 := hid' hF9
    have HA9 := hid' hA9
    clear hA8 hF8 hA9 hU9 hF9
    generalize wx.setCell ⟨b4, 0, none⟩ (.string ⟨d.toArray⟩) = w9 at *
    go_wp2_with (first | refine wpl_ldf _ rfl rfl b4 (by kernel_rfl) _ _ HA9.out ?_ | refine wpl_st2 _ _ _ _ rfl rfl rfl rfl w.heap.size b2 b3 (Fm.prio y d) none 0 0 false false 0 (by kernel_rfl) (by kernel_rfl) (by kernel_rfl) (by kernel_rfl) HF9.out.a2 HF9.out.a3 HF9.out.g2 HF9.out.g3 ?_)
    intro w10 hp10 hw10 hb10
    go_wp2
    exact bodyPost_ret (v := rdV (.ok (Fm.prio y d)) (.slice none 0 0)) (by simp [results, Try.results68, asAddr, ldp hp10, ldw hw10]; rfl) rfl ⟨rfl, HF9.out.bel.trans hb10⟩

end Go.Proofs.Ythbidfcfkjamdaa
