/-
  frame.parts by its contract: some kinds.
-/
import Derived.Test.YthbidfcfkjamdaaFrYh
namespace Go.Proofs.Ythbidfcfkjamdaa
open Go.RowKit

set_option maxHeartbeats 4000000 in
set_option maxRecDepth 20000 in
theorem cparts_mis (k fl st : Int) (l : List UInt8) (hm : Fm.mis k st = true) (w : World) :
    Calls Try.prog 48 #[.agg (frC k fl st l)] w fun e w' => (∃ v, e = .returned (rdV (.bad true 1) v) ∧ Hid (SP w.heap.size w' (.bad true 1) v)) ∧ Below w.heap.size w w' := by
  have HM := hid' hm
  clear hm
  go_enter Try.func48, Try.ntmps48
  go_wp2_with (refine wpl_open _ rfl rfl rfl rfl rfl rfl k fl st l (by kernel_rfl) ?_)
  intro b1 b2 b3 w0 hF
  obtain ⟨c0, c1, c2, c3⟩ := frC_cells hF.a1
  have HF := hid' hF
  clear hF
  go_wp2_with fail
  refine (cmis_any k fl st l true HM.out _).mono ?_
  rintro e w1 ⟨rfl, hb1⟩
  have HF1 := hid' (HF.out.keep hb1)
  obtain ⟨c0', c1', c2', c3'⟩ := frC_cells HF1.out.a1
  clear hb1 c0 c1 c2 c3
  go_wp2_with fail
  refine (cofConn_any 1 _).mono ?_
  rintro e w2 ⟨rfl, hb2⟩
  have HF2 := hid' (HF1.out.keep hb2)
  clear hb2
  go_wp2_with (refine wpl_st2 _ _ _ _ rfl rfl rfl rfl w.heap.size b2 b3 Fm.none' none 0 0 true true 1 (by kernel_rfl) (by kernel_rfl) (by kernel_rfl) (by kernel_rfl) HF2.out.a2 HF2.out.a3 HF2.out.g2 HF2.out.g3 ?_)
  intro w9 hp9 hw9 hb9
  go_wp2
  exact bodyPost_ret (v := rdV (.bad true 1) (.slice none 0 0)) (by simp [results, Try.results48, asAddr, ldp hp9, ldw hw9]; rfl) rfl ⟨⟨_, rfl, hid' SP.bad⟩, HF2.out.bel.trans hb9⟩

set_option maxHeartbeats 4000000 in
set_option maxRecDepth 20000 in
theorem cparts_unsized (k fl st : Int) (l : List UInt8) (z : Bool) (hm : Fm.mis k st = false) (hs : Fm.sized k fl l.length = false) (hz : decide (k ≠ 2) = z) (hsz : l.length ≤ 35184372088832) (w : World) :
    Calls Try.prog 48 #[.agg (frC k fl st l)] w fun e w' => (∃ v, e = .returned (rdV (.bad z 6) v) ∧ Hid (SP w.heap.size w' (.bad z 6) v)) ∧ Below w.heap.size w w' := by
  have HM := hid' hm
  have HS := hid' hs
  have hz2 : (k != 2) = z := by rw [← hz]; simp [bne, BEq.beq]
  clear hm hs hz
  go_enter Try.func48, Try.ntmps48
  go_wp2_with (refine wpl_open _ rfl rfl rfl rfl rfl rfl k fl st l (by kernel_rfl) ?_)
  intro b1 b2 b3 w0 hF
  obtain ⟨c0, c1, c2, c3⟩ := frC_cells hF.a1
  have HF := hid' hF
  clear hF
  go_wp2_with fail
  refine (cmis_any k fl st l false HM.out _).mono ?_
  rintro e w1 ⟨rfl, hb1⟩
  have HF1 := hid' (HF.out.keep hb1)
  obtain ⟨c0', c1', c2', c3'⟩ := frC_cells HF1.out.a1
  clear hb1 c0 c1 c2 c3
  go_wp2_with fail
  refine (csized_any k fl st l false (by omega) HS.out _).mono ?_
  rintro e w2 ⟨rfl, hb2⟩
  have HF2 := hid' (HF1.out.keep hb2)
  obtain ⟨d0, d1, d2, d3⟩ := frC_cells HF2.out.a1
  clear hb2 c0' c1' c2' c3'
  obtain ⟨⟨x0, x1, x2, x3, x4, x5, x6, x7⟩, f0, f1, f2, f3, f4, f5, f6, f7⟩ := ptZ_cells HF2.out.a2
  obtain ⟨⟨y0, y1, y2⟩, g0, g1, g2⟩ := wgZ_cells HF2.out.a3
  have hne : b3 ≠ b2 := HF2.out.a3.apart HF2.out.a2 (by decide)
  have hne1 : b1 ≠ b2 := HF2.out.a1.apart HF2.out.a2 (by decide)
  have hne2 : b1 ≠ b3 := HF2.out.a1.apart HF2.out.a3 (by decide)
  have hne' := Ne.symm hne
  go_upto_region 4 with fail
  go_region
  go_wp2
  obtain ⟨hA1, hU1⟩ := st8 HF2.out.a2 (.string ⟨#[]⟩) (.int .i64 0) (.int .i64 0) (.int .i64 0) (.int .i64 0) (.bool false) (.int .i64 0) (.slice none 0 0)
  obtain ⟨hA2, hU2⟩ := st3 (hU1.keep HF2.out.a3 hne) (.bool true) (.bool z) (.int .i64 6)
  have l1 := ld_parts (hU2.keep hA1 hne').drew
  have l2 := ld_wrong hA2.drew
  exact bodyPost_ret (v := rdV (.bad z 6) (.slice none 0 0)) (by simp [results, Try.results48, asAddr, l1, l2]; rfl) rfl ⟨⟨_, rfl, hid' SP.bad⟩, ((HF2.out.bel.trans (hU1.below HF2.out.g2)).trans (hU2.below HF2.out.g3)).drew⟩

set_option maxHeartbeats 4000000 in
set_option maxRecDepth 20000 in
theorem cparts_data0 (fl st : Int) (l : List UInt8) (hm : Fm.mis 0 st = false) (hs : Fm.sized 0 fl l.length = true) (c : Bool) (ec : Int) (hr : Fm.say 0 fl st l = (.bad c ec)) (hsz : l.length ≤ 35184372088832) (w : World) :
    Calls Try.prog 48 #[.agg (frC 0 fl st l)] w fun e w' => (∃ v, e = .returned (rdV (.bad c ec) v) ∧ Hid (SP w.heap.size w' (.bad c ec) v)) ∧ Below w.heap.size w w' := by
  have HM := hid' hm
  have HS := hid' hs
  clear hm hs
  have HU : Hid (∀ w : World, Calls Try.prog 67 #[.agg (frC 0 fl st l)] w fun e w' => e = .returned (.tuple #[.agg ptZ, .agg (wgC true c ec)]) ∧ Below w.heap.size w w') := hid' (fun w => cofData_any fl st l (.bad c ec) (by have := HS.out; unfold Fm.sized at this; simpa using this) (by omega) hr w)
  clear hr
  go_enter Try.func48, Try.ntmps48
  go_wp2_with (refine wpl_open _ rfl rfl rfl rfl rfl rfl 0 fl st l (by kernel_rfl) ?_)
  intro b1 b2 b3 w0 hF
  obtain ⟨c0, c1, c2, c3⟩ := frC_cells hF.a1
  have HF := hid' hF
  clear hF
  go_wp2_with fail
  refine (cmis_any 0 fl st l false HM.out _).mono ?_
  rintro e w1 ⟨rfl, hb1⟩
  have HF1 := hid' (HF.out.keep hb1)
  obtain ⟨c0', c1', c2', c3'⟩ := frC_cells HF1.out.a1
  clear hb1 c0 c1 c2 c3
  go_wp2_with fail
  refine (csized_any 0 fl st l true (by omega) HS.out _).mono ?_
  rintro e w2 ⟨rfl, hb2⟩
  have HF2 := hid' (HF1.out.keep hb2)
  obtain ⟨d0, d1, d2, d3⟩ := frC_cells HF2.out.a1
  clear hb2 c0' c1' c2' c3'
  go_upto_region 7 with fail
  go_wp2_with fail
  refine (HU.out _).mono ?_
  rintro e w3 ⟨rfl, hb3⟩
  have HF3 := hid' (HF2.out.keep hb3)
  clear hb3
  go_wp2_with (refine wpl_st2 _ _ _ _ rfl rfl rfl rfl w.heap.size b2 b3 Fm.none' none 0 0 true c ec (by kernel_rfl) (by kernel_rfl) (by kernel_rfl) (by kernel_rfl) HF3.out.a2 HF3.out.a3 HF3.out.g2 HF3.out.g3 ?_)
  intro w9 hp9 hw9 hb9
  go_wp2
  exact bodyPost_ret (v := rdV (.bad c ec) (.slice none 0 0)) (by simp [results, Try.results48, asAddr, ldp hp9, ldw hw9]; rfl) rfl ⟨⟨_, rfl, hid' SP.bad⟩, HF3.out.bel.trans hb9⟩

set_option maxHeartbeats 4000000 in
set_option maxRecDepth 20000 in
theorem cparts_data1 (fl st : Int) (l : List UInt8) (hm : Fm.mis 0 st = false) (hs : Fm.sized 0 fl l.length = true) (p : Fm.Pt) (hr : Fm.say 0 fl st l = (.ok p)) (hsz : l.length ≤ 35184372088832) (w : World) :
    Calls Try.prog 48 #[.agg (frC 0 fl st l)] w fun e w' => (∃ v, e = .returned (rdV (.ok p) v) ∧ Hid (SP w.heap.size w' (.ok p) v)) ∧ Below w.heap.size w w' := by
  have HM := hid' hm
  have HS := hid' hs
  clear hm hs
  have HU : Hid (∀ w : World, Calls Try.prog 67 #[.agg (frC 0 fl st l)] w fun e w' => e = .returned (.tuple #[.agg (ptC p (.slice none 0 0)), .agg wgZ]) ∧ Below w.heap.size w w') := hid' (fun w => cofData_any fl st l (.ok p) (by have := HS.out; unfold Fm.sized at this; simpa using this) (by omega) hr w)
  have hps := Fm.say_sets (by decide) hr
  have HPS := hid' hps
  clear hps
  clear hr
  go_enter Try.func48, Try.ntmps48
  go_wp2_with (refine wpl_open _ rfl rfl rfl rfl rfl rfl 0 fl st l (by kernel_rfl) ?_)
  intro b1 b2 b3 w0 hF
  obtain ⟨c0, c1, c2, c3⟩ := frC_cells hF.a1
  have HF := hid' hF
  clear hF
  go_wp2_with fail
  refine (cmis_any 0 fl st l false HM.out _).mono ?_
  rintro e w1 ⟨rfl, hb1⟩
  have HF1 := hid' (HF.out.keep hb1)
  obtain ⟨c0', c1', c2', c3'⟩ := frC_cells HF1.out.a1
  clear hb1 c0 c1 c2 c3
  go_wp2_with fail
  refine (csized_any 0 fl st l true (by omega) HS.out _).mono ?_
  rintro e w2 ⟨rfl, hb2⟩
  have HF2 := hid' (HF1.out.keep hb2)
  obtain ⟨d0, d1, d2, d3⟩ := frC_cells HF2.out.a1
  clear hb2 c0' c1' c2' c3'
  go_upto_region 7 with fail
  go_wp2_with fail
  refine (HU.out _).mono ?_
  rintro e w3 ⟨rfl, hb3⟩
  have HF3 := hid' (HF2.out.keep hb3)
  clear hb3
  go_wp2_with (refine wpl_st2 _ _ _ _ rfl rfl rfl rfl w.heap.size b2 b3 p none 0 0 false false 0 (by kernel_rfl) (by kernel_rfl) (by kernel_rfl) (by kernel_rfl) HF3.out.a2 HF3.out.a3 HF3.out.g2 HF3.out.g3 ?_)
  intro w9 hp9 hw9 hb9
  go_wp2
  exact bodyPost_ret (v := rdV (.ok p) (.slice none 0 0)) (by simp [results, Try.results48, asAddr, ldp hp9, ldw hw9]; rfl) rfl ⟨⟨_, rfl, hid' (SP.none HPS.out)⟩, HF3.out.bel.trans hb9⟩

set_option maxHeartbeats 4000000 in
set_option maxRecDepth 20000 in
theorem cparts_head0 (fl st : Int) (l : List UInt8) (hm : Fm.mis 1 st = false) (hs : Fm.sized 1 fl l.length = true) (c : Bool) (ec : Int) (hr : Fm.say 1 fl st l = (.bad c ec)) (hsz : l.length ≤ 35184372088832) (w : World) :
    Calls Try.prog 48 #[.agg (frC 1 fl st l)] w fun e w' => (∃ v, e = .returned (rdV (.bad c ec) v) ∧ Hid (SP w.heap.size w' (.bad c ec) v)) ∧ Below w.heap.size w w' := by
  have HM := hid' hm
  have HS := hid' hs
  clear hm hs
  have HU : Hid (∀ w : World, Calls Try.prog 68 #[.agg (frC 1 fl st l)] w fun e w' => e = .returned (.tuple #[.agg ptZ, .agg (wgC true c ec)]) ∧ Below w.heap.size w w') := hid' (fun w => cofHead_any fl st l (.bad c ec) (by have := HS.out; unfold Fm.sized at this; simpa using this) (by omega) hr w)
  clear hr
  go_enter Try.func48, Try.ntmps48
  go_wp2_with (refine wpl_open _ rfl rfl rfl rfl rfl rfl 1 fl st l (by kernel_rfl) ?_)
  intro b1 b2 b3 w0 hF
  obtain ⟨c0, c1, c2, c3⟩ := frC_cells hF.a1
  have HF := hid' hF
  clear hF
  go_wp2_with fail
  refine (cmis_any 1 fl st l false HM.out _).mono ?_
  rintro e w1 ⟨rfl, hb1⟩
  have HF1 := hid' (HF.out.keep hb1)
  obtain ⟨c0', c1', c2', c3'⟩ := frC_cells HF1.out.a1
  clear hb1 c0 c1 c2 c3
  go_wp2_with fail
  refine (csized_any 1 fl st l true (by omega) HS.out _).mono ?_
  rintro e w2 ⟨rfl, hb2⟩
  have HF2 := hid' (HF1.out.keep hb2)
  obtain ⟨d0, d1, d2, d3⟩ := frC_cells HF2.out.a1
  clear hb2 c0' c1' c2' c3'
  go_upto_region 9 with fail
  go_wp2_with fail
  refine (HU.out _).mono ?_
  rintro e w3 ⟨rfl, hb3⟩
  have HF3 := hid' (HF2.out.keep hb3)
  clear hb3
  go_wp2_with (refine wpl_st2 _ _ _ _ rfl rfl rfl rfl w.heap.size b2 b3 Fm.none' none 0 0 true c ec (by kernel_rfl) (by kernel_rfl) (by kernel_rfl) (by kernel_rfl) HF3.out.a2 HF3.out.a3 HF3.out.g2 HF3.out.g3 ?_)
  intro w9 hp9 hw9 hb9
  go_wp2
  exact bodyPost_ret (v := rdV (.bad c ec) (.slice none 0 0)) (by simp [results, Try.results48, asAddr, ldp hp9, ldw hw9]; rfl) rfl ⟨⟨_, rfl, hid' SP.bad⟩, HF3.out.bel.trans hb9⟩

set_option maxHeartbeats 4000000 in
set_option maxRecDepth 20000 in
theorem cparts_head1 (fl st : Int) (l : List UInt8) (hm : Fm.mis 1 st = false) (hs : Fm.sized 1 fl l.length = true) (p : Fm.Pt) (hr : Fm.say 1 fl st l = (.ok p)) (hsz : l.length ≤ 35184372088832) (w : World) :
    Calls Try.prog 48 #[.agg (frC 1 fl st l)] w fun e w' => (∃ v, e = .returned (rdV (.ok p) v) ∧ Hid (SP w.heap.size w' (.ok p) v)) ∧ Below w.heap.size w w' := by
  have HM := hid' hm
  have HS := hid' hs
  clear hm hs
  have HU : Hid (∀ w : World, Calls Try.prog 68 #[.agg (frC 1 fl st l)] w fun e w' => e = .returned (.tuple #[.agg (ptC p (.slice none 0 0)), .agg wgZ]) ∧ Below w.heap.size w w') := hid' (fun w => cofHead_any fl st l (.ok p) (by have := HS.out; unfold Fm.sized at this; simpa using this) (by omega) hr w)
  have hps := Fm.say_sets (by decide) hr
  have HPS := hid' hps
  clear hps
  clear hr
  go_enter Try.func48, Try.ntmps48
  go_wp2_with (refine wpl_open _ rfl rfl rfl rfl rfl rfl 1 fl st l (by kernel_rfl) ?_)
  intro b1 b2 b3 w0 hF
  obtain ⟨c0, c1, c2, c3⟩ := frC_cells hF.a1
  have HF := hid' hF
  clear hF
  go_wp2_with fail
  refine (cmis_any 1 fl st l false HM.out _).mono ?_
  rintro e w1 ⟨rfl, hb1⟩
  have HF1 := hid' (HF.out.keep hb1)
  obtain ⟨c0', c1', c2', c3'⟩ := frC_cells HF1.out.a1
  clear hb1 c0 c1 c2 c3
  go_wp2_with fail
  refine (csized_any 1 fl st l true (by omega) HS.out _).mono ?_
  rintro e w2 ⟨rfl, hb2⟩
  have HF2 := hid' (HF1.out.keep hb2)
  obtain ⟨d0, d1, d2, d3⟩ := frC_cells HF2.out.a1
  clear hb2 c0' c1' c2' c3'
  go_upto_region 9 with fail
  go_wp2_with fail
  refine (HU.out _).mono ?_
  rintro e w3 ⟨rfl, hb3⟩
  have HF3 := hid' (HF2.out.keep hb3)
  clear hb3
  go_wp2_with (refine wpl_st2 _ _ _ _ rfl rfl rfl rfl w.heap.size b2 b3 p none 0 0 false false 0 (by kernel_rfl) (by kernel_rfl) (by kernel_rfl) (by kernel_rfl) HF3.out.a2 HF3.out.a3 HF3.out.g2 HF3.out.g3 ?_)
  intro w9 hp9 hw9 hb9
  go_wp2
  exact bodyPost_ret (v := rdV (.ok p) (.slice none 0 0)) (by simp [results, Try.results48, asAddr, ldp hp9, ldw hw9]; rfl) rfl ⟨⟨_, rfl, hid' (SP.none HPS.out)⟩, HF3.out.bel.trans hb9⟩

end Go.Proofs.Ythbidfcfkjamdaa
