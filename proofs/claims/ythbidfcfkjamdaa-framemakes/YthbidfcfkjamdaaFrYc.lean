/-
  frame.parts by its contract: some kinds.
-/
import Derived.Test.YthbidfcfkjamdaaFrYh
namespace Go.Proofs.Ythbidfcfkjamdaa
open Go.RowKit

set_option maxHeartbeats 4000000 in
set_option maxRecDepth 20000 in
theorem cparts_ping (fl st : Int) (l : List UInt8) (hm : Fm.mis 6 st = false) (hs : Fm.sized 6 fl l.length = true) (hsz : l.length ≤ 35184372088832) (w : World) :
    Calls Try.prog 48 #[.agg (frC 6 fl st l)] w fun e w' => (∃ v, e = .returned (rdV (.ok ⟨l, 0, 0, 0, 0, false, 0, []⟩) v) ∧ Hid (SP w.heap.size w' (.ok ⟨l, 0, 0, 0, 0, false, 0, []⟩) v)) ∧ Below w.heap.size w w' := by
  have HM := hid' hm
  have HS := hid' hs
  clear hm hs
  go_enter Try.func48, Try.ntmps48
  go_wp2_with (refine wpl_open _ rfl rfl rfl rfl rfl rfl 6 fl st l (by kernel_rfl) ?_)
  intro b1 b2 b3 w0 hF
  obtain ⟨c0, c1, c2, c3⟩ := frC_cells hF.a1
  have HF := hid' hF
  clear hF
  go_wp2_with fail
  refine (cmis_any 6 fl st l false HM.out _).mono ?_
  rintro e w1 ⟨rfl, hb1⟩
  have HF1 := hid' (HF.out.keep hb1)
  obtain ⟨c0', c1', c2', c3'⟩ := frC_cells HF1.out.a1
  clear hb1 c0 c1 c2 c3
  go_wp2_with fail
  refine (csized_any 6 fl st l true (by omega) HS.out _).mono ?_
  rintro e w2 ⟨rfl, hb2⟩
  have HF2 := hid' (HF1.out.keep hb2)
  obtain ⟨d0, d1, d2, d3⟩ := frC_cells HF2.out.a1
  clear hb2 c0' c1' c2' c3'
  go_upto_region 18 with fail
  go_wp2_with (refine wpl_st2 _ _ _ _ rfl rfl rfl rfl w.heap.size b2 b3 ⟨l, 0, 0, 0, 0, false, 0, []⟩ none 0 0 false false 0 (by kernel_rfl) (by kernel_rfl) (by kernel_rfl) (by kernel_rfl) HF2.out.a2 HF2.out.a3 HF2.out.g2 HF2.out.g3 ?_)
  intro w9 hp9 hw9 hb9
  go_wp2
  exact bodyPost_ret (v := rdV (.ok ⟨l, 0, 0, 0, 0, false, 0, []⟩) (.slice none 0 0)) (by simp [results, Try.results48, asAddr, ldp hp9, ldw hw9]; rfl) rfl ⟨⟨_, rfl, hid' (SP.none rfl)⟩, HF2.out.bel.trans hb9⟩

set_option maxHeartbeats 4000000 in
set_option maxRecDepth 20000 in
theorem cparts_more (fl st : Int) (l : List UInt8) (hm : Fm.mis 9 st = false) (hs : Fm.sized 9 fl l.length = true) (hsz : l.length ≤ 35184372088832) (w : World) :
    Calls Try.prog 48 #[.agg (frC 9 fl st l)] w fun e w' => (∃ v, e = .returned (rdV (.ok ⟨l, 0, 0, 0, 0, false, 0, []⟩) v) ∧ Hid (SP w.heap.size w' (.ok ⟨l, 0, 0, 0, 0, false, 0, []⟩) v)) ∧ Below w.heap.size w w' := by
  have HM := hid' hm
  have HS := hid' hs
  clear hm hs
  go_enter Try.func48, Try.ntmps48
  go_wp2_with (refine wpl_open _ rfl rfl rfl rfl rfl rfl 9 fl st l (by kernel_rfl) ?_)
  intro b1 b2 b3 w0 hF
  obtain ⟨c0, c1, c2, c3⟩ := frC_cells hF.a1
  have HF := hid' hF
  clear hF
  go_wp2_with fail
  refine (cmis_any 9 fl st l false HM.out _).mono ?_
  rintro e w1 ⟨rfl, hb1⟩
  have HF1 := hid' (HF.out.keep hb1)
  obtain ⟨c0', c1', c2', c3'⟩ := frC_cells HF1.out.a1
  clear hb1 c0 c1 c2 c3
  go_wp2_with fail
  refine (csized_any 9 fl st l true (by omega) HS.out _).mono ?_
  rintro e w2 ⟨rfl, hb2⟩
  have HF2 := hid' (HF1.out.keep hb2)
  obtain ⟨d0, d1, d2, d3⟩ := frC_cells HF2.out.a1
  clear hb2 c0' c1' c2' c3'
  go_upto_region 18 with fail
  go_wp2_with (refine wpl_st2 _ _ _ _ rfl rfl rfl rfl w.heap.size b2 b3 ⟨l, 0, 0, 0, 0, false, 0, []⟩ none 0 0 false false 0 (by kernel_rfl) (by kernel_rfl) (by kernel_rfl) (by kernel_rfl) HF2.out.a2 HF2.out.a3 HF2.out.g2 HF2.out.g3 ?_)
  intro w9 hp9 hw9 hb9
  go_wp2
  exact bodyPost_ret (v := rdV (.ok ⟨l, 0, 0, 0, 0, false, 0, []⟩) (.slice none 0 0)) (by simp [results, Try.results48, asAddr, ldp hp9, ldw hw9]; rfl) rfl ⟨⟨_, rfl, hid' (SP.none rfl)⟩, HF2.out.bel.trans hb9⟩

set_option maxHeartbeats 4000000 in
set_option maxRecDepth 20000 in
theorem cparts_away (fl st : Int) (l : List UInt8) (hm : Fm.mis 7 st = false) (hs : Fm.sized 7 fl l.length = true) (hsz : l.length ≤ 35184372088832) (w : World) :
    Calls Try.prog 48 #[.agg (frC 7 fl st l)] w fun e w' => (∃ v, e = .returned (rdV (.ok ⟨l.drop 8, 0, (Fm.num ((l.drop 4).take 4) : Nat), (Fm.idn l : Nat), 0, false, 0, []⟩) v) ∧ Hid (SP w.heap.size w' (.ok ⟨l.drop 8, 0, (Fm.num ((l.drop 4).take 4) : Nat), (Fm.idn l : Nat), 0, false, 0, []⟩) v)) ∧ Below w.heap.size w w' := by
  have HM := hid' hm
  have HS := hid' hs
  clear hm hs
  go_enter Try.func48, Try.ntmps48
  go_wp2_with (refine wpl_open _ rfl rfl rfl rfl rfl rfl 7 fl st l (by kernel_rfl) ?_)
  intro b1 b2 b3 w0 hF
  obtain ⟨c0, c1, c2, c3⟩ := frC_cells hF.a1
  have HF := hid' hF
  clear hF
  go_wp2_with fail
  refine (cmis_any 7 fl st l false HM.out _).mono ?_
  rintro e w1 ⟨rfl, hb1⟩
  have HF1 := hid' (HF.out.keep hb1)
  obtain ⟨c0', c1', c2', c3'⟩ := frC_cells HF1.out.a1
  clear hb1 c0 c1 c2 c3
  go_wp2_with fail
  refine (csized_any 7 fl st l true (by omega) HS.out _).mono ?_
  rintro e w2 ⟨rfl, hb2⟩
  have HF2 := hid' (HF1.out.keep hb2)
  obtain ⟨d0, d1, d2, d3⟩ := frC_cells HF2.out.a1
  clear hb2 c0' c1' c2' c3'
  go_upto_region 20 with fail
  go_wp2_with fail
  refine (cofAway_any l (by have := HS.out; simp [Fm.sized] at this; omega) _).mono ?_
  rintro e w3 ⟨rfl, hb3⟩
  have HF3 := hid' (HF2.out.keep hb3)
  clear hb3
  go_wp2_with (refine wpl_st2 _ _ _ _ rfl rfl rfl rfl w.heap.size b2 b3 ⟨l.drop 8, 0, (Fm.num ((l.drop 4).take 4) : Nat), (Fm.idn l : Nat), 0, false, 0, []⟩ none 0 0 false false 0 (by kernel_rfl) (by kernel_rfl) (by kernel_rfl) (by kernel_rfl) HF3.out.a2 HF3.out.a3 HF3.out.g2 HF3.out.g3 ?_)
  intro w9 hp9 hw9 hb9
  go_wp2
  exact bodyPost_ret (v := rdV (.ok ⟨l.drop 8, 0, (Fm.num ((l.drop 4).take 4) : Nat), (Fm.idn l : Nat), 0, false, 0, []⟩) (.slice none 0 0)) (by simp [results, Try.results48, asAddr, ldp hp9, ldw hw9]; rfl) rfl ⟨⟨_, rfl, hid' (SP.none rfl)⟩, HF3.out.bel.trans hb9⟩

set_option maxHeartbeats 4000000 in
set_option maxRecDepth 20000 in
theorem cparts_sets0 (fl st : Int) (l : List UInt8) (hm : Fm.mis 4 st = false) (hs : Fm.sized 4 fl l.length = true) (c : Bool) (ec : Int) (hr : Fm.say 4 fl st l = (.bad c ec)) (hsz : l.length ≤ 35184372088832) (w : World) :
    Calls Try.prog 48 #[.agg (frC 4 fl st l)] w fun e w' => (∃ v, e = .returned (rdV (.bad c ec) v) ∧ Hid (SP w.heap.size w' (.bad c ec) v)) ∧ Below w.heap.size w w' := by
  have HM := hid' hm
  have HS := hid' hs
  clear hm hs
  have hl6 : l.length = 6 * (l.length / 6) := by have := HS.out; simp [Fm.sized] at this; rcases this with h | h; (rw [h]; rfl); omega
  have HU : Hid (∀ w : World, Calls Try.prog 71 #[.string ⟨l.toArray⟩] w fun e' w' => (∃ v, e' = .returned (.tuple #[.agg ptZ, .agg (wgC true c ec)]) ∧ Hid (SP w.heap.size w' (.bad c ec) v)) ∧ Below w.heap.size w w') := hid' (fun w => cofSettings_any l (l.length / 6) (.bad c ec) hl6 hsz (by rw [← hr]; simp [Fm.say]) w)
  clear hr hl6
  go_enter Try.func48, Try.ntmps48
  go_wp2_with (refine wpl_open _ rfl rfl rfl rfl rfl rfl 4 fl st l (by kernel_rfl) ?_)
  intro b1 b2 b3 w0 hF
  obtain ⟨c0, c1, c2, c3⟩ := frC_cells hF.a1
  have HF := hid' hF
  clear hF
  go_wp2_with fail
  refine (cmis_any 4 fl st l false HM.out _).mono ?_
  rintro e w1 ⟨rfl, hb1⟩
  have HF1 := hid' (HF.out.keep hb1)
  obtain ⟨c0', c1', c2', c3'⟩ := frC_cells HF1.out.a1
  clear hb1 c0 c1 c2 c3
  go_wp2_with fail
  refine (csized_any 4 fl st l true (by omega) HS.out _).mono ?_
  rintro e w2 ⟨rfl, hb2⟩
  have HF2 := hid' (HF1.out.keep hb2)
  obtain ⟨d0, d1, d2, d3⟩ := frC_cells HF2.out.a1
  clear hb2 c0' c1' c2' c3'
  go_upto_region 15 with fail
  go_wp2_with fail
  refine (HU.out _).mono ?_
  rintro e w3 ⟨⟨v, rfl, hv⟩, hb3⟩
  have HF3 := hid' (HF2.out.keep hb3)
  clear hb3 hv
  go_wp2_with (refine wpl_st2 _ _ _ _ rfl rfl rfl rfl w.heap.size b2 b3 Fm.none' none 0 0 true c ec (by kernel_rfl) (by kernel_rfl) (by kernel_rfl) (by kernel_rfl) HF3.out.a2 HF3.out.a3 HF3.out.g2 HF3.out.g3 ?_)
  intro w9 hp9 hw9 hb9
  go_wp2
  exact bodyPost_ret (v := rdV (.bad c ec) (.slice none 0 0)) (by simp [results, Try.results48, asAddr, ldp hp9, ldw hw9]; rfl) rfl ⟨⟨_, rfl, hid' SP.bad⟩, HF3.out.bel.trans hb9⟩

set_option maxHeartbeats 4000000 in
set_option maxRecDepth 20000 in
theorem cparts_sets1 (fl st : Int) (l : List UInt8) (hm : Fm.mis 4 st = false) (hs : Fm.sized 4 fl l.length = true) (p : Fm.Pt) (hr : Fm.say 4 fl st l = (.ok p)) (hsz : l.length ≤ 35184372088832) (w : World) :
    Calls Try.prog 48 #[.agg (frC 4 fl st l)] w fun e w' => (∃ v, e = .returned (rdV (.ok p) v) ∧ Hid (SP w.heap.size w' (.ok p) v)) ∧ Below w.heap.size w w' := by
  have HM := hid' hm
  have HS := hid' hs
  clear hm hs
  have hl6 : l.length = 6 * (l.length / 6) := by have := HS.out; simp [Fm.sized] at this; rcases this with h | h; (rw [h]; rfl); omega
  have HU : Hid (∀ w : World, Calls Try.prog 71 #[.string ⟨l.toArray⟩] w fun e' w' => (∃ v, e' = .returned (.tuple #[.agg (ptC p v), .agg wgZ]) ∧ Hid (SP w.heap.size w' (.ok p) v)) ∧ Below w.heap.size w w') := hid' (fun w => cofSettings_any l (l.length / 6) (.ok p) hl6 hsz (by rw [← hr]; simp [Fm.say]) w)
  clear hr hl6
  go_enter Try.func48, Try.ntmps48
  go_wp2_with (refine wpl_open _ rfl rfl rfl rfl rfl rfl 4 fl st l (by kernel_rfl) ?_)
  intro b1 b2 b3 w0 hF
  obtain ⟨c0, c1, c2, c3⟩ := frC_cells hF.a1
  have HF := hid' hF
  clear hF
  go_wp2_with fail
  refine (cmis_any 4 fl st l false HM.out _).mono ?_
  rintro e w1 ⟨rfl, hb1⟩
  have HF1 := hid' (HF.out.keep hb1)
  obtain ⟨c0', c1', c2', c3'⟩ := frC_cells HF1.out.a1
  clear hb1 c0 c1 c2 c3
  go_wp2_with fail
  refine (csized_any 4 fl st l true (by omega) HS.out _).mono ?_
  rintro e w2 ⟨rfl, hb2⟩
  have HF2 := hid' (HF1.out.keep hb2)
  obtain ⟨d0, d1, d2, d3⟩ := frC_cells HF2.out.a1
  clear hb2 c0' c1' c2' c3'
  go_upto_region 15 with fail
  go_wp2_with fail
  refine (HU.out _).mono ?_
  rintro e w3 ⟨⟨v, rfl, hv⟩, hb3⟩
  have HF3 := hid' (HF2.out.keep hb3)
  have hq := hv.out p rfl
  obtain ⟨ao, m, cap, hu⟩ : ∃ ao m cap, v = .slice ao m cap := by
    rcases hq.2 with ⟨h, _⟩ | ⟨g, cap, cur, h, _⟩
    · exact ⟨Option.none, 0, 0, h⟩
    · exact ⟨_, _, _, h⟩
  subst hu
  have HQ := hid' hq
  have HSZ := hid' HF2.out.bel.size
  clear hb3 hv hq
  go_wp2_with (refine wpl_st2k _ _ _ _ rfl rfl rfl rfl w.heap.size b2 b3 p ao m cap false false 0 (by kernel_rfl) (by kernel_rfl) (by kernel_rfl) (by kernel_rfl) HF3.out.a2 HF3.out.a3 HF3.out.g2 HF3.out.g3 ?_)
  intro w9 hp9 hw9 hb9 hk9
  go_wp2
  exact bodyPost_ret (v := rdV (.ok p) (.slice ao m cap)) (by simp [results, Try.results48, asAddr, ldp hp9, ldw hw9]; rfl) rfl ⟨⟨_, rfl, hid' (fun q hq => by injection hq with hq; subst hq; exact own_low (own_same HQ.out (fun k hk => hk9 k (own_apart HQ.out HF3.out.a2 (by decide) k hk) (own_apart HQ.out HF3.out.a3 (by decide) k hk))) HSZ.out)⟩, HF3.out.bel.trans hb9⟩

set_option maxHeartbeats 4000000 in
set_option maxRecDepth 20000 in
theorem cparts_other (k fl st : Int) (l : List UInt8) (hm : Fm.mis k st = false) (hs : Fm.sized k fl l.length = true) (hk : k ≠ 0 ∧ k ≠ 1 ∧ k ≠ 2 ∧ k ≠ 3 ∧ k ≠ 4 ∧ k ≠ 6 ∧ k ≠ 7 ∧ k ≠ 8 ∧ k ≠ 9 ∧ k ≠ 16) (hsz : l.length ≤ 35184372088832) (w : World) :
    Calls Try.prog 48 #[.agg (frC k fl st l)] w fun e w' => (∃ v, e = .returned (rdV (.ok Fm.none') v) ∧ Hid (SP w.heap.size w' (.ok Fm.none') v)) ∧ Below w.heap.size w w' := by
  have HM := hid' hm
  have HS := hid' hs
  clear hm hs
  have e0 : (k == 0) = false := beq_false_of_ne (by omega)
  have e1 : (k == 1) = false := beq_false_of_ne (by omega)
  have e2 : (k == 2) = false := beq_false_of_ne (by omega)
  have e3 : (k == 3) = false := beq_false_of_ne (by omega)
  have e4 : (k == 4) = false := beq_false_of_ne (by omega)
  have e6 : (k == 6) = false := beq_false_of_ne (by omega)
  have e7 : (k == 7) = false := beq_false_of_ne (by omega)
  have e8 : (k == 8) = false := beq_false_of_ne (by omega)
  have e9 : (k == 9) = false := beq_false_of_ne (by omega)
  have e16 : (k == 16) = false := beq_false_of_ne (by omega)
  clear hk
  go_enter Try.func48, Try.ntmps48
  go_wp2_with (refine wpl_open _ rfl rfl rfl rfl rfl rfl k fl st l (by kernel_rfl) ?_)
  intro b1 b2 b3 w0 hF
  obtain ⟨c0, c1, c2, c3⟩ := frC_cells hF.a1
  have HF := hid' hF
  clear hF
  go_wp2_with fail
  refine (cmis_any k fl st l false HM.out _).mono ?_
  rintro e w1 ⟨rfl, hb1⟩
  have HF1 := hid' (HF.out.keep hb1)
  obtain ⟨c0', c1', c2', c3'⟩ := frC_cells HF1.out.a1
  clear hb1 c0 c1 c2 c3
  go_wp2_with fail
  refine (csized_any k fl st l true (by omega) HS.out _).mono ?_
  rintro e w2 ⟨rfl, hb2⟩
  have HF2 := hid' (HF1.out.keep hb2)
  obtain ⟨d0, d1, d2, d3⟩ := frC_cells HF2.out.a1
  clear hb2 c0' c1' c2' c3'
  go_upto_region 25 with fail
  go_wp2_with (refine wpl_st2 _ _ _ _ rfl rfl rfl rfl w.heap.size b2 b3 Fm.none' none 0 0 false false 0 (by kernel_rfl) (by kernel_rfl) (by kernel_rfl) (by kernel_rfl) HF2.out.a2 HF2.out.a3 HF2.out.g2 HF2.out.g3 ?_)
  intro w9 hp9 hw9 hb9
  go_wp2
  exact bodyPost_ret (v := rdV (.ok Fm.none') (.slice none 0 0)) (by simp [results, Try.results48, asAddr, ldp hp9, ldw hw9]; rfl) rfl ⟨⟨_, rfl, hid' (SP.none rfl)⟩, HF2.out.bel.trans hb9⟩

end Go.Proofs.Ythbidfcfkjamdaa
