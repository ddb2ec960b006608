/-
  frame.parts by its contract: some kinds.
-/
import Derived.Test.YthbidfcfkjamdaaFrYh
namespace Go.Proofs.Ythbidfcfkjamdaa
open Go.RowKit

set_option maxHeartbeats 4000000 in
set_option maxRecDepth 20000 in
theorem cparts_window0 (fl st : Int) (l : List UInt8) (hm : Fm.mis 8 st = false) (hs : Fm.sized 8 fl l.length = true) (c : Bool) (ec : Int) (hr : Fm.say 8 fl st l = (.bad c ec)) (hsz : l.length ≤ 35184372088832) (w : World) :
    Calls Try.prog 48 #[.agg (frC 8 fl st l)] w fun e w' => (∃ v, e = .returned (rdV (.bad c ec) v) ∧ Hid (SP w.heap.size w' (.bad c ec) v)) ∧ Below w.heap.size w w' := by
  have HM := hid' hm
  have HS := hid' hs
  clear hm hs
  have HU : Hid (∀ w : World, Calls Try.prog 73 #[.agg (frC 8 fl st l)] w fun e w' => e = .returned (.tuple #[.agg ptZ, .agg (wgC true c ec)]) ∧ Below w.heap.size w w') := hid' (fun w => cofWindow_any 8 fl st l (.bad c ec) (by have := HS.out; simp [Fm.sized] at this; omega) (by rw [← hr]; simp [Fm.say]) w)
  clear hr
  go_enter Try.func48, Try.ntmps48
  go_wp2_with (refine wpl_open _ rfl rfl rfl rfl rfl rfl 8 fl st l (by kernel_rfl) ?_)
  intro b1 b2 b3 w0 hF
  obtain ⟨c0, c1, c2, c3⟩ := frC_cells hF.a1
  have HF := hid' hF
  clear hF
  go_wp2_with fail
  refine (cmis_any 8 fl st l false HM.out _).mono ?_
  rintro e w1 ⟨rfl, hb1⟩
  have HF1 := hid' (HF.out.keep hb1)
  obtain ⟨c0', c1', c2', c3'⟩ := frC_cells HF1.out.a1
  clear hb1 c0 c1 c2 c3
  go_wp2_with fail
  refine (csized_any 8 fl st l true (by omega) HS.out _).mono ?_
  rintro e w2 ⟨rfl, hb2⟩
  have HF2 := hid' (HF1.out.keep hb2)
  obtain ⟨d0, d1, d2, d3⟩ := frC_cells HF2.out.a1
  clear hb2 c0' c1' c2' c3'
  go_upto_region 22 with fail
  go_wp2_with fail
  refine (HU.out _).mono ?_
  rintro e w3 ⟨rfl, hb3⟩
  have HF3 := hid' (HF2.out.keep hb3)
  clear hb3
  go_wp2_with (refine wpl_st2 _ _ _ _ rfl rfl rfl rfl w.heap.size b2 b3 Fm.none' none 0 0 true c ec (by kernel_rfl) (by kernel_rfl) (by kernel_rfl) (by kernel_rfl) HF3.out.a2 HF3.out.a3 HF3.out.g2 HF3.out.g3 ?_)
  intro w9 hp9 hw9 hb9
  go_wp2
  exact bodyPost_ret (v := rdV (.bad c ec) (.slice none 0 0)) (by simp [results, Try.results48, asAddr, ldp hp9, ldw hw9]; rfl) rfl ⟨⟨_, rfl, hid' SP.bad⟩, HF3.out.bel.trans hb9⟩

set_option maxHeartbeats 4000000 in
set_option maxRecDepth 20000 in
theorem cparts_window1 (fl st : Int) (l : List UInt8) (hm : Fm.mis 8 st = false) (hs : Fm.sized 8 fl l.length = true) (p : Fm.Pt) (hr : Fm.say 8 fl st l = (.ok p)) (hsz : l.length ≤ 35184372088832) (w : World) :
    Calls Try.prog 48 #[.agg (frC 8 fl st l)] w fun e w' => (∃ v, e = .returned (rdV (.ok p) v) ∧ Hid (SP w.heap.size w' (.ok p) v)) ∧ Below w.heap.size w w' := by
  have HM := hid' hm
  have HS := hid' hs
  clear hm hs
  have HU : Hid (∀ w : World, Calls Try.prog 73 #[.agg (frC 8 fl st l)] w fun e w' => e = .returned (.tuple #[.agg (ptC p (.slice none 0 0)), .agg wgZ]) ∧ Below w.heap.size w w') := hid' (fun w => cofWindow_any 8 fl st l (.ok p) (by have := HS.out; simp [Fm.sized] at this; omega) (by rw [← hr]; simp [Fm.say]) w)
  have hps := Fm.say_sets (by decide) hr
  have HPS := hid' hps
  clear hps
  clear hr
  go_enter Try.func48, Try.ntmps48
  go_wp2_with (refine wpl_open _ rfl rfl rfl rfl rfl rfl 8 fl st l (by kernel_rfl) ?_)
  intro b1 b2 b3 w0 hF
  obtain ⟨c0, c1, c2, c3⟩ := frC_cells hF.a1
  have HF := hid' hF
  clear hF
  go_wp2_with fail
  refine (cmis_any 8 fl st l false HM.out _).mono ?_
  rintro e w1 ⟨rfl, hb1⟩
  have HF1 := hid' (HF.out.keep hb1)
  obtain ⟨c0', c1', c2', c3'⟩ := frC_cells HF1.out.a1
  clear hb1 c0 c1 c2 c3
  go_wp2_with fail
  refine (csized_any 8 fl st l true (by omega) HS.out _).mono ?_
  rintro e w2 ⟨rfl, hb2⟩
  have HF2 := hid' (HF1.out.keep hb2)
  obtain ⟨d0, d1, d2, d3⟩ := frC_cells HF2.out.a1
  clear hb2 c0' c1' c2' c3'
  go_upto_region 22 with fail
  go_wp2_with fail
  refine (HU.out _).mono ?_
  rintro e w3 ⟨rfl, hb3⟩
  have HF3 := hid' (HF2.out.keep hb3)
  clear hb3
  go_wp2_with (refine wpl_st2 _ _ _ _ rfl rfl rfl rfl w.heap.size b2 b3 p none 0 0 false false 0 (by kernel_rfl) (by kernel_rfl) (by kernel_rfl) (by kernel_rfl) HF3.out.a2 HF3.out.a3 HF3.out.g2 HF3.out.g3 ?_)
  intro w9 hp9 hw9 hb9
  go_wp2
  exact bodyPost_ret (v := rdV (.ok p) (.slice none 0 0)) (by simp [results, Try.results48, asAddr, ldp hp9, ldw hw9]; rfl) rfl ⟨⟨_, rfl, hid' (SP.none HPS.out)⟩, HF3.out.bel.trans hb9⟩

set_option maxHeartbeats 4000000 in
set_option maxRecDepth 20000 in
theorem cparts_update0 (fl st : Int) (l : List UInt8) (hm : Fm.mis 16 st = false) (hs : Fm.sized 16 fl l.length = true) (c : Bool) (ec : Int) (hr : Fm.say 16 fl st l = (.bad c ec)) (hsz : l.length ≤ 35184372088832) (w : World) :
    Calls Try.prog 48 #[.agg (frC 16 fl st l)] w fun e w' => (∃ v, e = .returned (rdV (.bad c ec) v) ∧ Hid (SP w.heap.size w' (.bad c ec) v)) ∧ Below w.heap.size w w' := by
  have HM := hid' hm
  have HS := hid' hs
  clear hm hs
  have HU : Hid (∀ w : World, Calls Try.prog 74 #[.string ⟨l.toArray⟩] w fun e w' => e = .returned (.tuple #[.agg ptZ, .agg (wgC true c ec)]) ∧ Below w.heap.size w w') := hid' (fun w => cofUpdate_any l (.bad c ec) (by have := HS.out; simp [Fm.sized] at this; omega) (by rw [← hr]; simp [Fm.say]) w)
  clear hr
  go_enter Try.func48, Try.ntmps48
  go_wp2_with (refine wpl_open _ rfl rfl rfl rfl rfl rfl 16 fl st l (by kernel_rfl) ?_)
  intro b1 b2 b3 w0 hF
  obtain ⟨c0, c1, c2, c3⟩ := frC_cells hF.a1
  have HF := hid' hF
  clear hF
  go_wp2_with fail
  refine (cmis_any 16 fl st l false HM.out _).mono ?_
  rintro e w1 ⟨rfl, hb1⟩
  have HF1 := hid' (HF.out.keep hb1)
  obtain ⟨c0', c1', c2', c3'⟩ := frC_cells HF1.out.a1
  clear hb1 c0 c1 c2 c3
  go_wp2_with fail
  refine (csized_any 16 fl st l true (by omega) HS.out _).mono ?_
  rintro e w2 ⟨rfl, hb2⟩
  have HF2 := hid' (HF1.out.keep hb2)
  obtain ⟨d0, d1, d2, d3⟩ := frC_cells HF2.out.a1
  clear hb2 c0' c1' c2' c3'
  go_upto_region 24 with fail
  go_wp2_with fail
  refine (HU.out _).mono ?_
  rintro e w3 ⟨rfl, hb3⟩
  have HF3 := hid' (HF2.out.keep hb3)
  clear hb3
  go_wp2_with (refine wpl_st2 _ _ _ _ rfl rfl rfl rfl w.heap.size b2 b3 Fm.none' none 0 0 true c ec (by kernel_rfl) (by kernel_rfl) (by kernel_rfl) (by kernel_rfl) HF3.out.a2 HF3.out.a3 HF3.out.g2 HF3.out.g3 ?_)
  intro w9 hp9 hw9 hb9
  go_wp2
  exact bodyPost_ret (v := rdV (.bad c ec) (.slice none 0 0)) (by simp [results, Try.results48, asAddr, ldp hp9, ldw hw9]; rfl) rfl ⟨⟨_, rfl, hid' SP.bad⟩, HF3.out.bel.trans hb9⟩

set_option maxHeartbeats 4000000 in
set_option maxRecDepth 20000 in
theorem cparts_update1 (fl st : Int) (l : List UInt8) (hm : Fm.mis 16 st = false) (hs : Fm.sized 16 fl l.length = true) (p : Fm.Pt) (hr : Fm.say 16 fl st l = (.ok p)) (hsz : l.length ≤ 35184372088832) (w : World) :
    Calls Try.prog 48 #[.agg (frC 16 fl st l)] w fun e w' => (∃ v, e = .returned (rdV (.ok p) v) ∧ Hid (SP w.heap.size w' (.ok p) v)) ∧ Below w.heap.size w w' := by
  have HM := hid' hm
  have HS := hid' hs
  clear hm hs
  have HU : Hid (∀ w : World, Calls Try.prog 74 #[.string ⟨l.toArray⟩] w fun e w' => e = .returned (.tuple #[.agg (ptC p (.slice none 0 0)), .agg wgZ]) ∧ Below w.heap.size w w') := hid' (fun w => cofUpdate_any l (.ok p) (by have := HS.out; simp [Fm.sized] at this; omega) (by rw [← hr]; simp [Fm.say]) w)
  have hps := Fm.say_sets (by decide) hr
  have HPS := hid' hps
  clear hps
  clear hr
  go_enter Try.func48, Try.ntmps48
  go_wp2_with (refine wpl_open _ rfl rfl rfl rfl rfl rfl 16 fl st l (by kernel_rfl) ?_)
  intro b1 b2 b3 w0 hF
  obtain ⟨c0, c1, c2, c3⟩ := frC_cells hF.a1
  have HF := hid' hF
  clear hF
  go_wp2_with fail
  refine (cmis_any 16 fl st l false HM.out _).mono ?_
  rintro e w1 ⟨rfl, hb1⟩
  have HF1 := hid' (HF.out.keep hb1)
  obtain ⟨c0', c1', c2', c3'⟩ := frC_cells HF1.out.a1
  clear hb1 c0 c1 c2 c3
  go_wp2_with fail
  refine (csized_any 16 fl st l true (by omega) HS.out _).mono ?_
  rintro e w2 ⟨rfl, hb2⟩
  have HF2 := hid' (HF1.out.keep hb2)
  obtain ⟨d0, d1, d2, d3⟩ := frC_cells HF2.out.a1
  clear hb2 c0' c1' c2' c3'
  go_upto_region 24 with fail
  go_wp2_with fail
  refine (HU.out _).mono ?_
  rintro e w3 ⟨rfl, hb3⟩
  have HF3 := hid' (HF2.out.keep hb3)
  clear hb3
  go_wp2_with (refine wpl_st2 _ _ _ _ rfl rfl rfl rfl w.heap.size b2 b3 p none 0 0 false false 0 (by kernel_rfl) (by kernel_rfl) (by kernel_rfl) (by kernel_rfl) HF3.out.a2 HF3.out.a3 HF3.out.g2 HF3.out.g3 ?_)
  intro w9 hp9 hw9 hb9
  go_wp2
  exact bodyPost_ret (v := rdV (.ok p) (.slice none 0 0)) (by simp [results, Try.results48, asAddr, ldp hp9, ldw hw9]; rfl) rfl ⟨⟨_, rfl, hid' (SP.none HPS.out)⟩, HF3.out.bel.trans hb9⟩

set_option maxHeartbeats 4000000 in
set_option maxRecDepth 20000 in
theorem cparts_prio (fl st : Int) (l : List UInt8) (hm : Fm.mis 2 st = false) (hs : Fm.sized 2 fl l.length = true) (hsz : l.length ≤ 35184372088832) (w : World) :
    Calls Try.prog 48 #[.agg (frC 2 fl st l)] w fun e w' => (∃ v, e = .returned (rdV (.ok (Fm.prio l [])) v) ∧ Hid (SP w.heap.size w' (.ok (Fm.prio l [])) v)) ∧ Below w.heap.size w w' := by
  have HM := hid' hm
  have HS := hid' hs
  clear hm hs
  go_enter Try.func48, Try.ntmps48
  go_wp2_with (refine wpl_open _ rfl rfl rfl rfl rfl rfl 2 fl st l (by kernel_rfl) ?_)
  intro b1 b2 b3 w0 hF
  obtain ⟨c0, c1, c2, c3⟩ := frC_cells hF.a1
  have HF := hid' hF
  clear hF
  go_wp2_with fail
  refine (cmis_any 2 fl st l false HM.out _).mono ?_
  rintro e w1 ⟨rfl, hb1⟩
  have HF1 := hid' (HF.out.keep hb1)
  obtain ⟨c0', c1', c2', c3'⟩ := frC_cells HF1.out.a1
  clear hb1 c0 c1 c2 c3
  go_wp2_with fail
  refine (csized_any 2 fl st l true (by omega) HS.out _).mono ?_
  rintro e w2 ⟨rfl, hb2⟩
  have HF2 := hid' (HF1.out.keep hb2)
  obtain ⟨d0, d1, d2, d3⟩ := frC_cells HF2.out.a1
  clear hb2 c0' c1' c2' c3'
  go_upto_region 11 with fail
  go_wp2_with fail
  refine (cofPrio_any l (by have := HS.out; simp [Fm.sized] at this; omega) _).mono ?_
  rintro e w3 ⟨rfl, hb3⟩
  have HF3 := hid' (HF2.out.keep hb3)
  clear hb3
  go_wp2_with (refine wpl_st2 _ _ _ _ rfl rfl rfl rfl w.heap.size b2 b3 (Fm.prio l []) none 0 0 false false 0 (by kernel_rfl) (by kernel_rfl) (by kernel_rfl) (by kernel_rfl) HF3.out.a2 HF3.out.a3 HF3.out.g2 HF3.out.g3 ?_)
  intro w9 hp9 hw9 hb9
  go_wp2
  exact bodyPost_ret (v := rdV (.ok (Fm.prio l [])) (.slice none 0 0)) (by simp [results, Try.results48, asAddr, ldp hp9, ldw hw9]; rfl) rfl ⟨⟨_, rfl, hid' (SP.none rfl)⟩, HF3.out.bel.trans hb9⟩

set_option maxHeartbeats 4000000 in
set_option maxRecDepth 20000 in
theorem cparts_reset (fl st : Int) (l : List UInt8) (hm : Fm.mis 3 st = false) (hs : Fm.sized 3 fl l.length = true) (hsz : l.length ≤ 35184372088832) (w : World) :
    Calls Try.prog 48 #[.agg (frC 3 fl st l)] w fun e w' => (∃ v, e = .returned (rdV (.ok ⟨[], 0, (Fm.num (l.take 4) : Nat), 0, 0, false, 0, []⟩) v) ∧ Hid (SP w.heap.size w' (.ok ⟨[], 0, (Fm.num (l.take 4) : Nat), 0, 0, false, 0, []⟩) v)) ∧ Below w.heap.size w w' := by
  have HM := hid' hm
  have HS := hid' hs
  clear hm hs
  go_enter Try.func48, Try.ntmps48
  go_wp2_with (refine wpl_open _ rfl rfl rfl rfl rfl rfl 3 fl st l (by kernel_rfl) ?_)
  intro b1 b2 b3 w0 hF
  obtain ⟨c0, c1, c2, c3⟩ := frC_cells hF.a1
  have HF := hid' hF
  clear hF
  go_wp2_with fail
  refine (cmis_any 3 fl st l false HM.out _).mono ?_
  rintro e w1 ⟨rfl, hb1⟩
  have HF1 := hid' (HF.out.keep hb1)
  obtain ⟨c0', c1', c2', c3'⟩ := frC_cells HF1.out.a1
  clear hb1 c0 c1 c2 c3
  go_wp2_with fail
  refine (csized_any 3 fl st l true (by omega) HS.out _).mono ?_
  rintro e w2 ⟨rfl, hb2⟩
  have HF2 := hid' (HF1.out.keep hb2)
  obtain ⟨d0, d1, d2, d3⟩ := frC_cells HF2.out.a1
  clear hb2 c0' c1' c2' c3'
  go_upto_region 13 with fail
  go_wp2_with fail
  refine (ccode_any l (by have := HS.out; simp [Fm.sized] at this; omega) _).mono ?_
  rintro e w3 ⟨rfl, hw⟩
  subst w3
  go_wp2_with (refine wpl_st2 _ _ _ _ rfl rfl rfl rfl w.heap.size b2 b3 ⟨[], 0, (Fm.num (l.take 4) : Nat), 0, 0, false, 0, []⟩ none 0 0 false false 0 (by kernel_rfl) (by kernel_rfl) (by kernel_rfl) (by kernel_rfl) HF2.out.a2 HF2.out.a3 HF2.out.g2 HF2.out.g3 ?_)
  intro w9 hp9 hw9 hb9
  go_wp2
  exact bodyPost_ret (v := rdV (.ok ⟨[], 0, (Fm.num (l.take 4) : Nat), 0, 0, false, 0, []⟩) (.slice none 0 0)) (by simp [results, Try.results48, asAddr, ldp hp9, ldw hw9]; rfl) rfl ⟨⟨_, rfl, hid' (SP.none rfl)⟩, HF2.out.bel.trans hb9⟩

end Go.Proofs.Ythbidfcfkjamdaa
